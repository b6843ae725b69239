/- ShelfDoes: after every act of a row, program and document read the same of the item that the act names, count it as held as often, name the same items resident in the same order, tell the same room and have the same pool; for every number and every row of acts, without a condition. -/
import Derived.Test.YtfggkkhehaafcaaRows
import Derived.Test.YtfggkkhehaafcaaView
import Derived.Test.YtfggkkhehaafcaaOwn
import Derived.Test.YtfggkkhehaafcaaPages
import Derived.Test.YtfggkkhehaafcaaLeast
import Derived.Test.YtfggkkhehaafcaaLays
import Derived.Test.YtfggkkhehaafcaaNews
import Derived.Test.YtfggkkhehaafcaaGoods
import Derived.Test.YtfggkkhehaafcaaPlain
import Derived.Test.YtfggkkhehaafcaaLies
import Derived.Test.YtfggkkhehaafcaaCopies
import Derived.Test.YtfggkkhehaafcaaNeeds
import Derived.Test.YtfggkkhehaafcaaFetch
import Derived.Test.YtfggkkhehaafcaaRefPg
import Derived.Test.YtfggkkhehaafcaaRefRd
import Derived.Test.YtfggkkhehaafcaaInvIn
import Derived.Test.YtfggkkhehaafcaaShPlain
import Derived.Test.YtfggkkhehaafcaaShActs
import Derived.Test.YtfggkkhehaafcaaShAt
import Derived.Test.YtfggkkhehaafcaaShIn
import Derived.Test.YtfggkkhehaafcaaWorksK
import Derived.Test.YtfggkkhehaafcaaOpenOps
import Derived.Test.YtfggkkhehaafcaaDocA
import Derived.Test.YtfggkkhehaafcaaDocC
import Derived.Test.YtfggkkhehaafcaaActZ
import Derived.Test.YtfggkkhehaafcaaRegZ
import Derived.WalkKit
import Derived.ProofKit
import Derived.OpenShut
import Derived.ChangeOld
import Derived.Below
import Derived.WalkLawsBesides
import Derived.ChangeMaps5
import Derived.Maps.OwnSet
import Derived.OwnWalk
import Derived.Deep.QuietTactic
import Derived.BigQuiet
import Derived.Maps.AppendAt
import Derived.Deep.Cut
import Derived.Deep.CutRange
import Derived.Deep.CutBlock
import Derived.Deep.RegionHeld3
import Derived.Orders
import Derived.Shelf.Abstract
namespace Go.Proofs.Ytfggkkhehaafcaa.shelfDoes
open Go.ChangeShapes Go.WideShapes Go.ChangeAt Go.RowKit
set_option linter.unusedVariables false
set_option linter.unusedSimpArgs false

theorem own : ownKnob Try.prog.godebug = none := by kernel_rfl
theorem laidOut : laidOutB Try.prog = true := by kernel_rfl


set_option maxHeartbeats 8000000 in
set_option maxRecDepth 20000 in
theorem walk (a0 : Int) (a1 : Option Addr) (n1 c1 : Nat) (O1 : Nat → OpV) (w : World) (w0 : (Lit.int .i64 a0).wf = true) (w1 : OpsAt w a1 n1 O1) (e1 : a1 = none → c1 = 0) (l1 : n1 ≤ c1) :
    Calls Try.prog 3 #[.int .i64 a0, .slice a1 n1 c1] w fun e w' => e = .returned (.bool true) ∧ Below w.heap.size w w' := by
  obtain ⟨M0, hM0, (e0 : (IntKind.u64.wrap a0).tmod 24 = (M0 : Int)), (e0' : IntKind.u64.wrap a0 % 24 = (M0 : Int))⟩ := restN a0 24 (by decide)
  obtain ⟨n, en⟩ : ∃ n : Nat, 1 + M0 = n := ⟨_, rfl⟩
  have en' : (1 : Int) + (M0 : Int) = (n : Int) := by omega
  have n0 : 1 ≤ n := by omega
  have n24 : n ≤ 24 := by omega
  clear en
  have hmx := w1.max
  have HOps := hidden_ w1
  have k7 := fun W => new_call n n0 (by omega) W
  have k8 := fun W => refNew_call n n0 (by omega) W
  clear w1
  go_enter Try.func3, Try.ntmps3
  go_wp2_with (first
    | (go_at_call 7; refine (k7 _).mono ?_; rintro e W1 ⟨rfl, hp1, hb1⟩; have H1 := hidden_ (And.intro (hp1 w.heap.size (Nat.le_refl _)) hb1); clear k7 hp1 hb1)
    | (go_at_call 8; refine (k8 _).mono ?_; rintro e W2 ⟨rfl, hp2, hb2⟩; have H2 := hidden_ (And.intro (H1.out.1.below hb2) (And.intro (hp2 w.heap.size H1.out.2.size) (below_then H1.out.2 hb2))); have k9 := sf_new H2.out.1 n0 (by omega); clear k8 hp2 hb2)
    | (go_at_call 9; refine k9.mono ?_; rintro e W3 ⟨rfl, s3, hb3⟩; have H3 := hidden_ (dz_new s3 (H2.out.2.1.below hb3) (below_then H2.out.2.2 hb3)); clear s3 hb3 k9))
  obtain ⟨x, ex⟩ : ∃ x : Nat, W2.heap.size + 1 = x := ⟨_, rfl⟩
  obtain ⟨mb, emb⟩ : ∃ mb : Nat, W2.heap.size = mb := ⟨_, rfl⟩
  obtain ⟨b, eb⟩ : ∃ b : Nat, w.heap.size + 1 = b := ⟨_, rfl⟩
  obtain ⟨p, ep⟩ : ∃ p : Nat, W1.heap.size + 1 = p := ⟨_, rfl⟩
  obtain ⟨y, ey⟩ : ∃ y : Nat, W3.heap.size = y := ⟨_, rfl⟩
  have H4 : ∃ g g', Hid (Dz w.heap.size w x mb b g y p g' 0 (W3.alloc (.cells #[.pointer (some ⟨p, 0, none⟩), .slice none 0 0] 36))) := by
    rw [← ex, ← emb, ← eb, ← ep, ← ey]
    exact ⟨_, _, H3⟩
  obtain ⟨g, g', H4⟩ := H4
  rw [ex, eb, ep, ey]
  obtain ⟨W4, eW4⟩ : ∃ W4, W3.alloc (.cells #[.pointer (some ⟨p, 0, none⟩), .slice none 0 0] 36) = W4 := ⟨_, rfl⟩
  rw [eW4] at H4
  rw [eW4]
  clear H1 H2 H3 ex emb eb ep ey eW4 e0 e0' en'
  go_loopw [11] (fun i wr => ∃ k : Nat, k ≤ n1 ∧ k ≤ 60 ∧ i = .int .i64 k ∧ Hid (Dz w.heap.size w x mb b g y p g' k wr)) (fun i _ => n1 - (intOf i).toNat)
  case atStart => exact ⟨0, Nat.zero_le _, Nat.zero_le _, rfl, H4⟩
  case round =>
    clear H4
    obtain ⟨k, hk, hk', rfl, hh⟩ := hrel
    by_cases hlt : k < n1 ∧ k < 60
    · obtain ⟨y1, y2⟩ := hlt
      have y1' : (k : Int) < (n1 : Int) := by omega
      have y2' : (k : Int) < 60 := by omega
      obtain ⟨xo, rfl⟩ := HOps.out.some_ (by omega)
      have hOk := HOps.out.ok k y1
      have cx := (HOps.out.below hh.out.bel).cell xo rfl k y1
      obtain ⟨o, eo⟩ : ∃ o, O1 k = o := ⟨_, rfl⟩
      rw [eo] at hOk cx
      obtain ⟨ok, ot, ⟨wa, wn, wc⟩, zw, on⟩ := o
      simp only [SL.v] at cx
      obtain ⟨PA, ePA⟩ : ∃ PA, xo.add (k * 4) = PA := ⟨_, rfl⟩
      rw [ePA] at cx
      obtain ⟨cx0, cx1, cx2, cx3⟩ := cx
      have cx1' : wr.cell? ⟨PA.block, PA.off + 1, none⟩ = some (.string ot) := cx1
      have cx2' : wr.cell? ⟨PA.block, PA.off + 2, none⟩ = some (.slice wa wn wc) := cx2
      have cx3' : wr.cell? ⟨PA.block, PA.off + 3, none⟩ = some (.int .i64 on) := cx3
      clear cx1 cx2 cx3
      have hwm : wn ≤ 9223372036854775807 := hOk.rw_.max
      have hsz : ot.size ≤ maxLen := hOk.sz
      have hbA := below_new (Below.refl wr.heap.size wr) (.cells #[.int .i64 ok, .string ot, .slice wa wn wc, .int .i64 on] 39)
      obtain ⟨A, eA⟩ : ∃ A, wr.alloc (.cells #[.int .i64 ok, .string ot, .slice wa wn wc, .int .i64 on] 39) = A := ⟨_, rfl⟩
      have hbx := BoxO.new wr ⟨ok, ot, ⟨wa, wn, wc⟩, zw, on⟩
      unfold boxC at hbx
      simp only at hbx
      rw [eA] at hbA hbx
      obtain ⟨ob, eob⟩ : ∃ ob, wr.heap.size = ob := ⟨_, rfl⟩
      have hgr := hh.out.grown hbA
      have k10 := fun h2 : wn ≤ 2000 => hh.out.step (by omega) (Nat.le_refl _) ⟨ok, ot, ⟨wa, wn, wc⟩, zw, on⟩ hOk h2 hbA hbx
      simp only at k10
      rw [eob] at hbx k10
      obtain ⟨d0, d1, d2, d3⟩ := BoxO.cells hbx
      simp only at d0 d1 d2 d3
      have HX := hidden_ hbx
      have HG := hidden_ hgr
      clear hh hOk hbx eo hbA hgr
      by_cases h2000 : 2000 < wn
      · have h2000' : (2000 : Int) < (wn : Int) := by omega
        clear k10
        go_wp2
        go_ret
        exact ⟨rfl, HG.out⟩
      have h2000' : ¬ (2000 : Int) < (wn : Int) := by omega
      have k10 := k10 (by omega)
      go_wp2_with (first
        | (go_at_call 10; refine k10.mono ?_; rintro e V1 ⟨rfl, s1, L1, hD1⟩; obtain ⟨E, Z, eE, k11, k12⟩ := hD1.reads (by omega) hsz; have q1 : V1.cell? ⟨ob, 1, none⟩ = some (.string ot) := hD1.name; simp only at k11 k12; have HD1 := hidden_ hD1; clear k10 hD1 eE)
        | (go_at_call 11; refine k11.mono ?_; rintro e V2 ⟨a1, l1, c1, rfl, r1, hb2⟩; have q2 : V2.cell? ⟨ob, 1, none⟩ = some (.string ot) := (HD1.out.below hb2).name; have kk := k12 V2 hb2; have H2 := hidden_ (And.intro (HD1.out.below hb2) r1); clear k11 k12 r1 hb2)
        | (go_at_call 12; refine kk.mono ?_; rintro e V3 ⟨a2, l2, c2, rfl, r2, hb3⟩; have H3 := hidden_ (And.intro (H2.out.1.below hb3) (And.intro (H2.out.2.below hb3) r2)); clear kk r2 hb3))
      refine se_region x y b p ob l1 c1 l2 c2 (pinsZ L1 ot) (roomZ s1 L1) E ot a1 a2 (names L1) (fun W => Below V3.heap.size V3 W) (by kernel_rfl) rfl ⟨_, rfl, rfl, rfl, rfl, by kernel_rfl⟩ ⟨_, rfl, rfl, rfl, rfl, by kernel_rfl⟩ ⟨_, rfl, rfl, rfl, rfl, by kernel_rfl⟩ ⟨_, rfl, rfl, rfl, rfl, by kernel_rfl⟩ ⟨_, rfl, rfl, rfl, rfl, by kernel_rfl⟩ ⟨_, rfl, rfl, rfl, rfl, by kernel_rfl⟩ ⟨_, rfl, rfl, rfl, rfl, by kernel_rfl⟩ ⟨_, rfl, rfl, rfl, rfl, by kernel_rfl⟩ ⟨_, rfl, rfl, rfl, rfl, by kernel_rfl⟩ ⟨_, rfl, rfl, rfl, rfl, by kernel_rfl⟩ ⟨_, rfl, rfl, rfl, rfl, by kernel_rfl⟩ ⟨_, rfl, rfl, rfl, rfl, by kernel_rfl⟩ ⟨_, rfl, rfl, rfl, rfl, by kernel_rfl⟩ ⟨_, rfl, rfl, rfl, rfl, by kernel_rfl⟩ ⟨_, rfl, rfl, rfl, rfl, by kernel_rfl⟩ ⟨_, rfl, rfl, rfl, rfl, by kernel_rfl⟩ ⟨_, rfl, rfl, rfl, rfl, by kernel_rfl⟩ ⟨_, rfl, rfl, rfl, rfl, by kernel_rfl⟩ ⟨_, rfl, rfl, rfl, rfl, by kernel_rfl⟩ ⟨_, rfl, rfl, rfl, rfl, by kernel_rfl⟩ ⟨_, rfl, rfl, rfl, rfl, by kernel_rfl⟩ ⟨_, rfl, rfl, rfl, rfl, by kernel_rfl⟩ ⟨_, rfl, rfl, rfl, rfl, by kernel_rfl⟩ ⟨_, rfl, rfl, rfl, rfl, by kernel_rfl⟩ ⟨_, rfl, rfl, rfl, rfl, by kernel_rfl⟩ ⟨_, rfl, rfl, rfl, rfl, by kernel_rfl⟩ ⟨_, rfl, rfl, rfl, rfl, by kernel_rfl⟩ ⟨_, rfl, rfl, rfl, rfl, by kernel_rfl⟩ ⟨_, rfl, rfl, rfl, rfl, by kernel_rfl⟩ ⟨_, rfl, rfl, rfl, rfl, by kernel_rfl⟩ ⟨_, rfl, rfl, rfl, rfl, by kernel_rfl⟩ ⟨_, rfl, rfl, rfl, rfl, by kernel_rfl⟩ ⟨_, rfl, rfl, rfl, rfl, by kernel_rfl⟩ ⟨_, rfl, rfl, rfl, rfl, by kernel_rfl⟩ ⟨_, rfl, rfl, rfl, rfl, by kernel_rfl⟩ ⟨_, rfl, rfl, rfl, rfl, by kernel_rfl⟩ ⟨_, rfl, rfl, rfl, rfl, by kernel_rfl⟩ ⟨_, rfl, rfl, rfl, rfl, by kernel_rfl⟩ ⟨_, rfl, rfl, rfl, rfl, by kernel_rfl⟩ ⟨_, rfl, rfl, rfl, rfl, by kernel_rfl⟩ ⟨_, rfl, rfl, rfl, rfl, by kernel_rfl⟩ (below_m _ 1) (Dy.x13 H3.out.2.1 H3.out.2.2) (run_neq25_same _) (fun w => run_fa39 ob 1 (by decide) w) H3.out.1.x12l (H3.out.1.x14 (by omega) hsz) (fun w => run_fa39 ob 1 (by decide) w) H3.out.1.x12l (H3.out.1.x15 (by omega)) (run_neq3_same _) (H3.out.1.x17 (by omega)) (H3.out.1.x18 (by omega)) (H3.out.1.x16 (by omega)) (H3.out.1.x19 (by omega)) (H3.out.1.x20 (by omega)) (run_neq3_same _) (H3.out.1.x21 (by omega)) rfl rfl rfl rfl rfl rfl rfl rfl rfl (Nat.le_of_ble_eq_true rfl) ?_
      intro a W9 hs hd hkp hS9 hval
      have e123 : a.tmps.getD 123 undef = .bool false := hval 40 123 (by decide) rfl
      have ep := frame_puts [83, 84, 85, 86, 87, 88, 89, 90, 91, 92, 93, 94, 95, 96, 97, 98, 99, 100, 101, 102, 103, 104, 105, 106, 107, 108, 109, 110, 111, 112, 113, 114, 115, 116, 117, 118, 119, 120, 121, 122, 123] hs hd (fun s h => hkp s (fun i hi e => h (by
        rcases (show i = 0 ∨ i = 1 ∨ i = 2 ∨ i = 3 ∨ i = 4 ∨ i = 5 ∨ i = 6 ∨ i = 7 ∨ i = 8 ∨ i = 9 ∨ i = 10 ∨ i = 11 ∨ i = 12 ∨ i = 13 ∨ i = 14 ∨ i = 15 ∨ i = 16 ∨ i = 17 ∨ i = 18 ∨ i = 19 ∨ i = 20 ∨ i = 21 ∨ i = 22 ∨ i = 23 ∨ i = 24 ∨ i = 25 ∨ i = 26 ∨ i = 27 ∨ i = 28 ∨ i = 29 ∨ i = 30 ∨ i = 31 ∨ i = 32 ∨ i = 33 ∨ i = 34 ∨ i = 35 ∨ i = 36 ∨ i = 37 ∨ i = 38 ∨ i = 39 ∨ i = 40 by omega) with rfl | rfl | rfl | rfl | rfl | rfl | rfl | rfl | rfl | rfl | rfl | rfl | rfl | rfl | rfl | rfl | rfl | rfl | rfl | rfl | rfl | rfl | rfl | rfl | rfl | rfl | rfl | rfl | rfl | rfl | rfl | rfl | rfl | rfl | rfl | rfl | rfl | rfl | rfl | rfl | rfl <;> (simp only [seD, Option.some.injEq] at e; subst e; simp))))
      simp only [List.foldl] at ep
      rw [e123] at ep
      have H9 := hidden_ hS9
      clear hs hd hkp hval hS9 e123
      generalize a.tmps.getD 83 undef = g83 at ep
      generalize a.tmps.getD 84 undef = g84 at ep
      generalize a.tmps.getD 85 undef = g85 at ep
      generalize a.tmps.getD 86 undef = g86 at ep
      generalize a.tmps.getD 87 undef = g87 at ep
      generalize a.tmps.getD 88 undef = g88 at ep
      generalize a.tmps.getD 89 undef = g89 at ep
      generalize a.tmps.getD 90 undef = g90 at ep
      generalize a.tmps.getD 91 undef = g91 at ep
      generalize a.tmps.getD 92 undef = g92 at ep
      generalize a.tmps.getD 93 undef = g93 at ep
      generalize a.tmps.getD 94 undef = g94 at ep
      generalize a.tmps.getD 95 undef = g95 at ep
      generalize a.tmps.getD 96 undef = g96 at ep
      generalize a.tmps.getD 97 undef = g97 at ep
      generalize a.tmps.getD 98 undef = g98 at ep
      generalize a.tmps.getD 99 undef = g99 at ep
      generalize a.tmps.getD 100 undef = g100 at ep
      generalize a.tmps.getD 101 undef = g101 at ep
      generalize a.tmps.getD 102 undef = g102 at ep
      generalize a.tmps.getD 103 undef = g103 at ep
      generalize a.tmps.getD 104 undef = g104 at ep
      generalize a.tmps.getD 105 undef = g105 at ep
      generalize a.tmps.getD 106 undef = g106 at ep
      generalize a.tmps.getD 107 undef = g107 at ep
      generalize a.tmps.getD 108 undef = g108 at ep
      generalize a.tmps.getD 109 undef = g109 at ep
      generalize a.tmps.getD 110 undef = g110 at ep
      generalize a.tmps.getD 111 undef = g111 at ep
      generalize a.tmps.getD 112 undef = g112 at ep
      generalize a.tmps.getD 113 undef = g113 at ep
      generalize a.tmps.getD 114 undef = g114 at ep
      generalize a.tmps.getD 115 undef = g115 at ep
      generalize a.tmps.getD 116 undef = g116 at ep
      generalize a.tmps.getD 117 undef = g117 at ep
      generalize a.tmps.getD 118 undef = g118 at ep
      generalize a.tmps.getD 119 undef = g119 at ep
      generalize a.tmps.getD 120 undef = g120 at ep
      generalize a.tmps.getD 121 undef = g121 at ep
      generalize a.tmps.getD 122 undef = g122 at ep
      simp only [Act.put, List.setIfInBounds_toArray, List.set_cons_succ, List.set_cons_zero] at ep
      subst ep
      have HZ := hidden_ (H3.out.1.below H9.out).toZ
      clear H3 H2 HD1 H9 HX HG
      go_wp2
      go_roundw
      case rel => exact ⟨k + 1, by omega, by omega, by go_num, HZ⟩
      case measure => simp [intOf]; omega
    · by_cases c : k < n1
      · have c1 : (k : Int) < (n1 : Int) := by omega
        have c2 : ¬ (k : Int) < 60 := by omega
        go_wp2
        go_ret
        exact ⟨rfl, hh.out.bel⟩
      · have c1 : ¬ (k : Int) < (n1 : Int) := by omega
        go_wp2
        go_ret
        exact ⟨rfl, hh.out.bel⟩

set_option maxRecDepth 100000 in
theorem contract (H : Type) (enc : TypeId × Value → H) (W : World) (base : Nat) (args : Array Value) (ds gs : List (DataW H)) (before : List MemPlace)
    (hval0 : ∀ (j : Nat) t v, Try.f3.params[j]? = some t → args[j]? = some v → Value.okWide Try.prog W .any base t v)
    (hW : DataW.Whole enc Try.prog Try.f3.params.toList Rows.shelfDoesSpec.vars false W args.toList ds gs before) :
    Calls Try.prog 3 args W fun e W' => ∃ v, e = .returned v ∧ Rows.shelfDoesSpec.post enc Try.prog Try.f3 false true false false W args v W' := by
  have hval : ∀ (j : Nat) t v, Try.f3.params[j]? = some t → args[j]? = some v → Value.okWide Try.prog W .any base t v := hval0
  have hW' := hW
  obtain ⟨p, q, hA0, hV, rfl, hfz, hnd⟩ := hW
  have hA : DataW.TrodAll enc Try.prog W 0 (fun _ => true) true Try.f3.params.toList args.toList ds p := hA0
  rw [Try.params3] at hA hval
  obtain ⟨v0, vs0, d0, ds0, p0, q0, hargs, rfl, rfl, h0, r0⟩ := trodAll_cons hA
  obtain ⟨v1, vs1, d1, ds1, p1, q1, rfl, rfl, rfl, h1, r1⟩ := trodAll_cons r0
  obtain ⟨rfl, rfl, rfl⟩ := trodAll_nil r1
  obtain rfl : args = #[v0, v1] := by cases args; simp_all
  obtain ⟨rfl, rfl⟩ := trodVars_none hV
  obtain ⟨a0, rfl, rfl, rfl, w0⟩ := open_int Try.underlying3 (hval 0 3 v0 rfl rfl) h0
  obtain ⟨a1, n1, c1, rfl⟩ := okWide_slice Try.underlying22 (hval 1 22 v1 rfl rfl)
  have k1 := h1
  have lt1 : ∀ x ∈ p1, x.block < W.heap.size := by obtain ⟨m, hm⟩ := k1; exact DataW.trod_lt m _ _ _ hm
  obtain ⟨O1, w1, e1, l1⟩ := open_ops h1
  clear hA0 hval0
  refine (walk a0 a1 n1 c1 O1 W w0 w1 e1 l1).mono fun e W' ⟨he, bel⟩ => ?_
  subst he
  exact ⟨_, rfl, _, _, _, [], _, [], hW', trodAll_mk1 (shut_bool Try.underlying4 _), (trodAll_cons_mk (shut_int Try.underlying3 w0) (trodAll_cons_mk (Below.trod laidOut (by kernel_rfl) (of_decide_eq_true (by kernel_rfl)) k1 bel lt1) trodAll_mk0)), rfl, bel.frame _, fun h => by cases h⟩

set_option maxRecDepth 100000 in
theorem lifted (os : Os) (started : os.Started) (H : Type) (enc : TypeId × Value → H) :
    ReturnsInHanded {} Try.checked os 3 .any (Rows.shelfDoesSpec.pre6 enc Try.prog Try.f3 Rows.shelfDoesRow.domain false) (Rows.shelfDoesSpec.post enc Try.prog Try.f3 false true false false) := by
  refine returnsInHanded_of_change (C := Try.checked) own started (by kernel_rfl) Try.func3
    (ChangeSpec.witness6 (enc := enc) (C := Try.checked) false ⟨#[], #[.int .i64 0, .slice none 0 0], []⟩ 8 (by kernel_rfl) (by kernel_rfl) (by kernel_rfl) (by kernel_rfl)) ?_
  intro W base args ds gs before hval hW _ _
  exact contract H enc W base args ds gs before hval hW

theorem over : Rows.shelfDoesRow.holds Try.pinned (OpenSpec.ofChange Rows.shelfDoesSpec) :=
  OpenClaim.holds_of_wide 3 Try.f3 rfl rfl rfl rfl rfl rfl rfl ⟨rfl, rfl, rfl, rfl, rfl⟩ rfl rfl rfl rfl rfl (by kernel_rfl) Try.func3 (by kernel_rfl)
    (of_decide_eq_true (by kernel_rfl)) (by unfold Func.isWrapper; first | (rw [if_pos (by decide +kernel)]; kernel_rfl) | (rw [if_neg (by decide +kernel)]; exact ⟨rfl, rfl⟩))
    (fun os started H enc _ => lifted os started H enc)

theorem proved : Rows.ShelfDoesSaid :=
  over
#print axioms proved
end Go.Proofs.Ytfggkkhehaafcaa.shelfDoes
