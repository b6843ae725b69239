/- For every row of scores, all tokens and every score the Go function BeamOne returns true (with width 1 the only beam goes on with the best token, at no loss, of up to a hundred scores and tokens) and leaves its arguments as they were; no condition. -/
import Derived.Test.YteeljnibglnflaaRows
import Derived.Test.YteeljnibglnflaaView
import Derived.Test.YteeljnibglnflaaOwn
import Derived.Test.YteeljnibglnflaaWhere
import Derived.Test.YteeljnibglnflaaWorks
import Derived.Test.YteeljnibglnflaaSteps
import Derived.Test.YteeljnibglnflaaSat
import Derived.Test.YteeljnibglnflaaSatRef
import Derived.Test.YteeljnibglnflaaRanks
import Derived.Test.YteeljnibglnflaaRank
import Derived.Test.YteeljnibglnflaaRefTop
import Derived.Test.YteeljnibglnflaaGSameI
import Derived.Test.YteeljnibglnflaaGMean
import Derived.Test.YteeljnibglnflaaBmZ
import Derived.Test.YteeljnibglnflaaBmAt
import Derived.Test.YteeljnibglnflaaBmFin
import Derived.Test.YteeljnibglnflaaBmFits
import Derived.Test.YteeljnibglnflaaBmWhole
import Derived.Test.YteeljnibglnflaaBmCd
import Derived.Test.YteeljnibglnflaaBmCand
import Derived.Test.YteeljnibglnflaaBmGI
import Derived.Test.YteeljnibglnflaaBmGrow
import Derived.Test.YteeljnibglnflaaBmReg
import Derived.Test.YteeljnibglnflaaBmRun
import Derived.Test.YteeljnibglnflaaBmTo
import Derived.Test.YteeljnibglnflaaBmSame
import Derived.Test.YteeljnibglnflaaBmBest
import Derived.Test.YteeljnibglnflaaBmGreat
import Derived.Test.YteeljnibglnflaaBmWorks
import Derived.Test.YteeljnibglnflaaBmOneZ
import Derived.WalkKit
import Derived.ProofKit
import Derived.OpenShut
import Derived.ChangeOld
import Derived.Below
import Derived.WalkLawsBesides
import Derived.ChangeMaps5
import Derived.Laws.OwnMore
import Derived.Deep.QuietTactic
import Derived.BigQuiet
import Derived.Laws.AppendOwnNone
namespace Go.Proofs.Yteeljnibglnflaa.beamOne
set_option maxRecDepth 20000
open Go.ChangeShapes Go.WideShapes Go.ChangeAt Go.RowKit
set_option linter.unusedVariables false
set_option linter.unusedSimpArgs false

theorem own : ownKnob Try.prog.godebug = none := by kernel_rfl
theorem laidOut : laidOutB Try.prog = true := by kernel_rfl


theorem one_grow (a0 : Option Addr) (n0 c0 : Nat) (z0 : List Int) (a1 : Option Addr) (n1 c1 : Nat) (z1 : List Int) (S : Int) (ta : Option Addr) (cc : Nat) (hta : ta = none → cc = 0) (W : World) (w0 : Reads .i64 W a0 n0 z0) (r1 : Reads .i64 W ta n1 z1) (h0 : 0 < n0) (h0' : n0 ≤ 100) (h1 : n1 ≤ 100) (hS1 : -1073741824 ≤ S) (hS2 : S ≤ 0) :
    ∃ i : Nat, i < n0 ∧ (∀ k, k < n0 → clampZ (z0.getD k 0) ≤ clampZ (z0.getD i 0)) ∧
    Calls Try.prog 10 #[.slice (some ⟨W.heap.size, 0, none⟩) 1 1, .slice (some ⟨W.heap.size + 1, 0, none⟩) 1 1, .int .i64 1, .int .i64 1000, .int .i64 (-1)] ((W.alloc (.cells #[.slice ta n1 cc, .int .i64 S, .bool false] 40)).alloc (.cells #[.slice a0 n0 c0] 46)) fun e w' =>
      (∃ x ca q cb xt ct, e = .returned (.tuple #[.slice (some x) 1 ca, .slice q 1 cb, .int .i64 0]) ∧ w'.cell? x = some (.slice (some xt) (n1 + 1) ct) ∧ w'.cell? ⟨x.block, x.off + 1, none⟩ = some (.int .i64 S) ∧ w'.cell? ⟨x.block, x.off + 2, none⟩ = some (.bool false) ∧ w'.cell? (xt.add n1) = some (.int .i64 (i : Int))) ∧ Below W.heap.size W w' := by
  have hl0 := w0.len
  have hl1 := r1.len
  obtain ⟨i, hi, hE, hL, hbest⟩ := one_plain z0 z1 S (by omega) hS1 hS2 (by omega)
  refine ⟨i, by omega, fun k hk => hbest k (by omega), ?_⟩
  obtain ⟨w1, e1⟩ : ∃ w1, W.alloc (.cells #[.slice ta n1 cc, .int .i64 S, .bool false] 40) = w1 := ⟨_, rfl⟩
  obtain ⟨w2, e2⟩ : ∃ w2, w1.alloc (.cells #[.slice a0 n0 c0] 46) = w2 := ⟨_, rfl⟩
  have s1 : w1.heap.size = W.heap.size + 1 := by rw [← e1]; simp
  rw [e1, e2]
  have b1 : Below W.heap.size W w1 := by rw [← e1]; exact below_new (Below.refl _ _) _
  have b2 : Below w1.heap.size w1 w2 := by rw [← e2]; exact below_new (Below.refl _ _) _
  have B : BmAt w1 (some ⟨W.heap.size, 0, none⟩) 1 (fun _ => ta) (fun _ => cc) (fun _ => ⟨z1, S, false⟩) := by
    refine ⟨by decide, fun _ => ⟨_, rfl⟩, fun x hx r hr => ?_, fun r hr => ?_, (fun r hr h => hta h), fun r hr => wf_range (by show (-9223372036854775808 : Int) ≤ S; omega) (by show S ≤ (9223372036854775807 : Int); omega)⟩
    · obtain rfl := Option.some.inj hx
      obtain rfl : r = 0 := by omega
      rw [Addr.add_add, Addr.add_add, ← e1]
      show _ = some (Value.slice ta z1.length cc) ∧ _
      rw [hl1]
      exact ⟨lit_new W [.slice ta n1 cc, .int .i64 S, .bool false] 40 0 _ rfl, lit_new W [.slice ta n1 cc, .int .i64 S, .bool false] 40 1 _ rfl, lit_new W [.slice ta n1 cc, .int .i64 S, .bool false] 40 2 _ rfl⟩
    · show Reads .i64 w1 _ z1.length z1
      rw [hl1]
      exact r1.below b1
  have G : Grid w2 (some ⟨W.heap.size + 1, 0, none⟩) 1 (fun _ => a0) (fun _ => c0) (fun _ => z0) := by
    refine ⟨by decide, fun _ => ⟨_, rfl⟩, fun x hx r hr => ?_, fun r hr => ?_⟩
    · obtain rfl := Option.some.inj hx
      obtain rfl : r = 0 := by omega
      show _ = some (Value.slice a0 z0.length c0)
      rw [hl0, ← e2, ← s1]
      exact lit_new w1 [.slice a0 n0 c0] 46 0 _ rfl
    · show Reads .i64 w2 _ z0.length z0
      rw [hl0]
      exact (w0.below b1).below b2
  have k := Grow_call (some ⟨W.heap.size, 0, none⟩) 1 1 _ _ _ (some ⟨W.heap.size + 1, 0, none⟩) 1 1 _ _ _ 1 1000 (-1) w2 (B.below b2) G (Nat.le_refl _) (fun r _ => by show z0.length ≤ 1000; omega) (by decide) (fun r _ => by show z1.length ≤ 1000000; omega)
  refine k.mono ?_
  rintro e w' ⟨⟨a, q, ca, cb, Ar, Cr, he, _, _, _, _, hB, hR⟩, hb⟩
  rw [hL] at he hB hR
  rw [hE] at he
  obtain ⟨x, rfl⟩ := hB.some_ (Nat.succ_pos _)
  obtain ⟨y, ey, d0, d1, d2⟩ := hB.at3 (r := 0) (Nat.succ_pos _)
  have rr := hB.row 0 (Nat.succ_pos _)
  have gb : growB (fun _ => (⟨z1, S, false⟩ : Bm)) [⟨0, (i : Int), S, false⟩] 0 = ⟨z1 ++ [(i : Int)], S, false⟩ := by
    show wholeZ _ ⟨0, (i : Int), S, false⟩ = _
    unfold wholeZ
    simp only [if_neg (show ¬ ((i : Int) = -1) by omega)]
  rw [gb] at d0 d1 d2 rr
  have lt : (z1 ++ [(i : Int)]).length = n1 + 1 := by simp [hl1]
  simp only [lt] at d0 rr
  have ex : y = x := by rw [← ey, Nat.zero_mul, Addr.add_zero']
  subst ex
  obtain ⟨xt, ext⟩ := rr.some_ (by omega)
  have ct := rr.cell xt ext n1 (by omega)
  rw [show (z1 ++ [(i : Int)]).getD n1 0 = (i : Int) by simp [List.getD, hl1]] at ct
  rw [ext] at d0
  exact ⟨⟨y, ca, q, cb, xt, Cr 0, he, d0, d1, d2, ct⟩, (below_then b1 b2).trans (hb.mono (by have := b1.size; have := b2.size; omega))⟩


set_option maxHeartbeats 2000000 in
set_option maxRecDepth 20000 in
theorem walk (a0 : Option Addr) (n0 c0 : Nat) (z0 : List Int) (a1 : Option Addr) (n1 c1 : Nat) (z1 : List Int) (a2 : Int) (w : World) (w0 : Reads .i64 w a0 n0 z0) (e0 : a0 = none → c0 = 0) (l0 : n0 ≤ c0) (w1 : Reads .i64 w a1 n1 z1) (e1 : a1 = none → c1 = 0) (l1 : n1 ≤ c1) (w2 : (Lit.int .i64 a2).wf = true) :
    Calls Try.prog 5 #[.slice a0 n0 c0, .slice a1 n1 c1, .int .i64 a2] w fun e w' => e = .returned (.bool true) ∧ Below w.heap.size w w' := by
  have kw := works_call w
  by_cases t0 : n0 = 0
  · subst t0
    go_enter Try.func5, Try.ntmps5
    go_wp2_with (go_at_call 19; refine kw.mono ?_; rintro e W1 ⟨rfl, hb1⟩)
    go_ret
    exact ⟨rfl, hb1⟩
  · have t0b : ((n0 : Int) == 0) = false := by simp; omega
    have m0 := w0.max
    have m1 := w1.max
    by_cases t1 : 100 < n0
    · have t1z : (100 : Int) < (n0 : Int) := by omega
      go_enter Try.func5, Try.ntmps5
      go_wp2_with (go_at_call 19; refine kw.mono ?_; rintro e W1 ⟨rfl, hb1⟩)
      go_ret
      exact ⟨rfl, hb1⟩
    · have t1z : ¬ (100 : Int) < (n0 : Int) := by omega
      by_cases t2 : 100 < n1
      · have t2z : (100 : Int) < (n1 : Int) := by omega
        go_enter Try.func5, Try.ntmps5
        go_wp2_with (go_at_call 19; refine kw.mono ?_; rintro e W1 ⟨rfl, hb1⟩)
        go_ret
        exact ⟨rfl, hb1⟩
      · have t2z : ¬ (100 : Int) < (n1 : Int) := by omega
        obtain ⟨S1, eS1⟩ : ∃ S, max (-1073741824) a2 = S := ⟨_, rfl⟩
        obtain ⟨S, eS⟩ : ∃ S, min 0 S1 = S := ⟨_, rfl⟩
        have hS1 : -1073741824 ≤ S := by omega
        have hS2 : S ≤ 0 := by omega
        obtain ⟨i0, hi, hz0, hz1, hz2⟩ := info_parts info3
        go_enter Try.func5, Try.ntmps5
        go_wp2_with (first
          | (go_at_call 19; refine kw.mono ?_; rintro e W1 ⟨rfl, hb1⟩
             have q0 := w0.below hb1
             have q1 := w1.below hb1
             have own1 : (W1.alloc (.cells #[] 3)).ownsRow W1.heap.size 3 1 (.slice (some ⟨W1.heap.size, 0, none⟩) 0 0) 0 [] := World.ownsRow_lit W1 #[] 0 (Nat.le_refl _) (by decide) rfl
             have q1' := q1.below (below_new (Below.refl _ _) (.cells #[] 3)))
          | (at_builtin; refine wpList_copy rfl (.tmp 31) (.tmp 32) 29 rfl W1.heap.size 3 i0 (.int .i64 0) 8 Try.underlying29 hi hz0 hz1 hz2 rfl _ 0 [] rfl own1 .i64 a1 n1 c1 z1 rfl q1' e1 (by unfold maxLen; omega) (by omega) (by simp) ?_; intro v2 W2 ho2 hg2
             obtain ⟨a2', c2', ev, rd2, hb2, hn2, hc2⟩ := copied (Below.refl W1.heap.size W1) (.cells #[] 3) ho2 hg2 q1'
             subst ev
             obtain ⟨i, hin, hbest, kg⟩ := one_grow a0 n0 c0 z0 a1 n1 c1 z1 S a2' c2' hn2 W2 (q0.below hb2) rd2 (by omega) (by omega) (by omega) hS1 hS2
             have HBest : Hid (∀ k, k < n0 → clampZ (z0.getD k 0) ≤ clampZ (z0.getD i 0)) := hbest
             have hin1 : decide (n0 ≤ i) = false := decide_eq_false (by omega)
             have hin2 : decide ((i : Int) < 0) = false := decide_eq_false (by omega)
             have q2 := q0.below hb2
             have hbW2 := below_then hb1 hb2
             clear hbest own1 ho2 hg2 q1' rd2)
          | (go_at_call 10; refine kg.mono ?_; rintro e W3 ⟨⟨x, ca, qb, cb, xt, ct, rfl, d0, d1, d2, dt⟩, hb3⟩
             have q3 := q2.below hb3
             have hbW3 := below_then hbW2 hb3
             clear kg))
        clear t0 t0b t1 t1z t2 t2z d0 d1 d2 dt hi hz0 hz1 hz2 hb3 q0 q1 q2 kw hS1 hS2 eS eS1 hb1 hb2 hbW2
        have Hq : Hid (Reads .i64 W3 a0 n0 z0) := q3
        clear q3
        go_loopw [11] (fun s wr => ∃ k : Nat, k ≤ n0 ∧ s = .int .i64 k ∧ ∃ m, wr = W3.drewN m) (fun s _ => n0 - (intOf s).toNat)
        case atStart => exact ⟨0, Nat.zero_le _, rfl, 0, rfl⟩
        case round =>
          obtain ⟨k, hk, rfl, m, hw⟩ := hrel
          by_cases hlt : k < n0
          · obtain ⟨x0, hx0⟩ := Hq.out.some_ (by omega)
            subst hx0
            have ck : wr.cell? (x0.add k) = some (.int .i64 (z0.getD k 0)) := by rw [hw]; exact Hq.out.cell x0 rfl k hlt
            have ci : wr.cell? (x0.add i) = some (.int .i64 (z0.getD i 0)) := by rw [hw]; exact Hq.out.cell x0 rfl i hin
            have Hw : Hid (wr = W3.drewN m) := hw
            have hle := HBest.out k hlt
            rw [← clamp_min, ← clamp_min] at hle
            obtain ⟨X, eX⟩ : ∃ X, z0.getD k 0 = X := ⟨_, rfl⟩
            obtain ⟨Y, eY⟩ : ∃ X, z0.getD i 0 = X := ⟨_, rfl⟩
            rw [eX] at ck hle
            rw [eY] at ci hle
            obtain ⟨X1, eX1⟩ : ∃ V, max (-2147483648) X = V := ⟨_, rfl⟩
            obtain ⟨Y1, eY1⟩ : ∃ V, max (-2147483648) Y = V := ⟨_, rfl⟩
            rw [eX1, eY1] at hle
            obtain ⟨X2, eX2⟩ : ∃ V, min 2147483647 X1 = V := ⟨_, rfl⟩
            obtain ⟨Y2, eY2⟩ : ∃ V, min 2147483647 Y1 = V := ⟨_, rfl⟩
            rw [eX2, eY2] at hle
            have hgt : ¬ (Y2 < X2) := by omega
            clear hle eX eY hw
            go_wp2
            go_quiet (fail)
            go_wp2
            go_roundw
            case rel => exact ⟨k + 1, by omega, by go_num, _, by rw [Hw.out, World.drewN_drewN]⟩
            case measure => simp [intOf]; omega
          · have e : k = n0 := by omega
            subst e
            subst hw
            go_wp2
            go_ret
            exact ⟨rfl, below_drew hbW3 ⟨_, rfl⟩⟩

theorem contract (H : Type) (enc : TypeId × Value → H) (W : World) (base : Nat) (args : Array Value) (ds gs : List (DataW H)) (before : List MemPlace)
    (hval0 : ∀ (j : Nat) t v, Try.f5.params[j]? = some t → args[j]? = some v → Value.okWide Try.prog W .any base t v)
    (hW : DataW.Whole enc Try.prog Try.f5.params.toList Rows.beamOneSpec.vars false W args.toList ds gs before) :
    Calls Try.prog 5 args W fun e W' => ∃ v, e = .returned v ∧ Rows.beamOneSpec.post enc Try.prog Try.f5 false true false false W args v W' := by
  have hval : ∀ (j : Nat) t v, Try.f5.params[j]? = some t → args[j]? = some v → Value.okWide Try.prog W .any base t v := hval0
  have hW' := hW
  obtain ⟨p, q, hA0, hV, rfl, hfz, hnd⟩ := hW
  have hA : DataW.TrodAll enc Try.prog W 0 (fun _ => true) true Try.f5.params.toList args.toList ds p := hA0
  rw [Try.params5] at hA hval
  obtain ⟨v0, vs0, d0, ds0, p0, q0, hargs, rfl, rfl, h0, r0⟩ := trodAll_cons hA
  obtain ⟨v1, vs1, d1, ds1, p1, q1, rfl, rfl, rfl, h1, r1⟩ := trodAll_cons r0
  obtain ⟨v2, vs2, d2, ds2, p2, q2, rfl, rfl, rfl, h2, r2⟩ := trodAll_cons r1
  obtain ⟨rfl, rfl, rfl⟩ := trodAll_nil r2
  obtain rfl : args = #[v0, v1, v2] := by cases args; simp_all
  obtain ⟨rfl, rfl⟩ := trodVars_none hV
  obtain ⟨a0, n0, c0, rfl⟩ := okWide_slice Try.underlying46 (hval 0 46 v0 rfl rfl)
  have k0 := h0
  have lt0 : ∀ x ∈ p0, x.block < W.heap.size := by obtain ⟨m, hm⟩ := k0; exact DataW.trod_lt m _ _ _ hm
  obtain ⟨z0, w0, e0, l0, s0⟩ : ∃ zs, Reads .i64 W a0 n0 zs ∧ (a0 = none → c0 = 0) ∧ n0 ≤ c0 ∧ (n0 = 0 ∨ ∃ el sp, d0 = .slice el sp ∧ n0 ≤ el.length + sp.length) := by
    obtain ⟨fuel, hf⟩ := h0
    rcases open_ints Try.underlying46 Try.underlying2 (by kernel_rfl) hf with ⟨hcs, hd⟩ | ⟨x, l, c, zs, hcs, _, hl, hm, hz, hd, hcell, hwz⟩
    · simp [Value.cells] at hcs
      obtain ⟨rfl, rfl, rfl⟩ := hcs
      exact ⟨[], Reads.nil _ _, fun _ => rfl, Nat.le_refl _, .inl rfl⟩
    · simp [Value.cells] at hcs
      obtain ⟨rfl, rfl, rfl⟩ := hcs
      exact ⟨_, Reads.of_open hl hm (by simpa using hz) hcell hwz, (fun h => by cases h), hl, .inr ⟨_, _, congrArg Prod.fst hd, open_length (by simpa using hz) hl⟩⟩
  obtain ⟨a1, n1, c1, rfl⟩ := okWide_slice Try.underlying29 (hval 1 29 v1 rfl rfl)
  have k1 := h1
  have lt1 : ∀ x ∈ p1, x.block < W.heap.size := by obtain ⟨m, hm⟩ := k1; exact DataW.trod_lt m _ _ _ hm
  obtain ⟨z1, w1, e1, l1, s1⟩ : ∃ zs, Reads .i64 W a1 n1 zs ∧ (a1 = none → c1 = 0) ∧ n1 ≤ c1 ∧ (n1 = 0 ∨ ∃ el sp, d1 = .slice el sp ∧ n1 ≤ el.length + sp.length) := by
    obtain ⟨fuel, hf⟩ := h1
    rcases open_ints Try.underlying29 Try.underlying3 (by kernel_rfl) hf with ⟨hcs, hd⟩ | ⟨x, l, c, zs, hcs, _, hl, hm, hz, hd, hcell, hwz⟩
    · simp [Value.cells] at hcs
      obtain ⟨rfl, rfl, rfl⟩ := hcs
      exact ⟨[], Reads.nil _ _, fun _ => rfl, Nat.le_refl _, .inl rfl⟩
    · simp [Value.cells] at hcs
      obtain ⟨rfl, rfl, rfl⟩ := hcs
      exact ⟨_, Reads.of_open hl hm (by simpa using hz) hcell hwz, (fun h => by cases h), hl, .inr ⟨_, _, congrArg Prod.fst hd, open_length (by simpa using hz) hl⟩⟩
  obtain ⟨a2, rfl, rfl, rfl, w2⟩ := open_int Try.underlying2 (hval 2 2 v2 rfl rfl) h2
  clear hA0 hval0
  refine (walk a0 n0 c0 z0 a1 n1 c1 z1 a2 W w0 e0 l0 w1 e1 l1 w2).mono fun e W' ⟨he, bel⟩ => ?_
  subst he
  exact ⟨_, rfl, _, _, _, [], _, [], hW', trodAll_mk1 (shut_bool Try.underlying4 _), (trodAll_cons_mk (Below.trod laidOut (by kernel_rfl) (of_decide_eq_true (by kernel_rfl)) k0 bel lt0) (trodAll_cons_mk (Below.trod laidOut (by kernel_rfl) (of_decide_eq_true (by kernel_rfl)) k1 bel lt1) (trodAll_cons_mk (shut_int Try.underlying2 w2) trodAll_mk0))), rfl, bel.frame _, fun h => by cases h⟩

set_option maxRecDepth 100000 in
theorem lifted (os : Os) (started : os.Started) (H : Type) (enc : TypeId × Value → H) :
    ReturnsInHanded {} Try.checked os 5 .any (Rows.beamOneSpec.pre6 enc Try.prog Try.f5 Rows.beamOneRow.domain false) (Rows.beamOneSpec.post enc Try.prog Try.f5 false true false false) := by
  refine returnsInHanded_of_change (C := Try.checked) own started (by kernel_rfl) Try.func5
    (ChangeSpec.witness6 (enc := enc) (C := Try.checked) false ⟨#[], #[.slice none 0 0, .slice none 0 0, .int .i64 0], []⟩ 8 (by kernel_rfl) (by kernel_rfl) (by kernel_rfl) (by kernel_rfl)) ?_
  intro W base args ds gs before hval hW _ _
  exact contract H enc W base args ds gs before hval hW

theorem over : Rows.beamOneRow.holds Try.pinned (OpenSpec.ofChange Rows.beamOneSpec) :=
  OpenClaim.holds_of_wide 5 Try.f5 rfl rfl rfl rfl rfl rfl rfl ⟨rfl, rfl, rfl, rfl, rfl⟩ rfl rfl rfl rfl rfl (by kernel_rfl) Try.func5 (by kernel_rfl)
    (of_decide_eq_true (by kernel_rfl)) (by unfold Func.isWrapper; first | (rw [if_pos (by decide +kernel)]; kernel_rfl) | (rw [if_neg (by decide +kernel)]; exact ⟨rfl, rfl⟩))
    (fun os started H enc _ => lifted os started H enc)

theorem proved : Rows.BeamOneSaid :=
  over
#print axioms proved
end Go.Proofs.Yteeljnibglnflaa.beamOne
