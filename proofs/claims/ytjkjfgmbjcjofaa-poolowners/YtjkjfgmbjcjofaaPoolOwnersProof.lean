/- For every three numbers: a page that is taken, written at the second one's rest of 32 and shared as often as the first one's rest of 50 keeps tag and number until as many drops and one, is free then, and when it is taken anew has nought there and one owner; and the examples of works() hold. -/
import Derived.Test.YtjkjfgmbjcjofaaRows
import Derived.Test.YtjkjfgmbjcjofaaView
import Derived.Test.YtjkjfgmbjcjofaaOwn
import Derived.Test.YtjkjfgmbjcjofaaPages
import Derived.Test.YtjkjfgmbjcjofaaReadsP
import Derived.Test.YtjkjfgmbjcjofaaReadsQ
import Derived.Test.YtjkjfgmbjcjofaaLeast
import Derived.Test.YtjkjfgmbjcjofaaLays
import Derived.Test.YtjkjfgmbjcjofaaTurns
import Derived.Test.YtjkjfgmbjcjofaaNews
import Derived.Test.YtjkjfgmbjcjofaaGoods
import Derived.Test.YtjkjfgmbjcjofaaWorks11
import Derived.Test.YtjkjfgmbjcjofaaOne
import Derived.WalkKit
import Derived.ProofKit
import Derived.OpenShut
import Derived.ChangeOld
import Derived.Below
import Derived.WalkLawsBesides
import Derived.ChangeMaps5
namespace Go.Proofs.Ytjkjfgmbjcjofaa.poolOwners
open Go.ChangeShapes Go.WideShapes Go.ChangeAt Go.RowKit
set_option linter.unusedVariables false
set_option linter.unusedSimpArgs false

theorem own : ownKnob Try.prog.godebug = none := by kernel_rfl
theorem laidOut : laidOutB Try.prog = true := by kernel_rfl


theorem walk (a0 : Int) (a1 : Int) (a2 : Int) (w : World) (w0 : (Lit.int .i64 a0).wf = true) (w1 : (Lit.int .i64 a1).wf = true) (w2 : (Lit.int .i64 a2).wf = true) :
    Calls Try.prog 5 #[.int .i64 a0, .int .i64 a1, .int .i64 a2] w fun e w' => e = .returned (.bool true) ∧ Below w.heap.size w w' := by
  obtain ⟨T, hT, (eT : (IntKind.u64.wrap a0).tmod 50 = (T : Int)), (eT' : IntKind.u64.wrap a0 % 50 = (T : Int))⟩ := restN a0 50 (by decide)
  obtain ⟨c, hc, (eC : (IntKind.u64.wrap a1).tmod 32 = (c : Int)), (eC' : IntKind.u64.wrap a1 % 32 = (c : Int))⟩ := restN a1 32 (by decide)
  have k15 := works_call w
  have k7 := new_call 1 (by decide) (by decide)
  have n0 : Good 100 (newPl 1) := good_new 1 100 (by decide) (by decide)
  have tk0 := one_take tA tA_ne ⟨⟨#[]⟩, 0, fun _ => 0⟩ rfl
  rw [← onePl_new] at tk0
  have k16 := fun (W : World) b g (h : PoolAt w.heap.size W b g (newPl 1)) => take_call h n0 tA 1
  simp only [tk0.1, tk0.2.1, tk0.2.2] at k16
  have g1 : Good 100 (oneP (newPg tA)) := one_good _ 100 (by decide) (by decide) (by show tA.toList = [] ↔ (1 : Int) = 0; simp [tA_ne])
  have pt := one_put (newPg tA) (by decide) c hc a2
  have k25 := fun (W : World) b g (h : PoolAt w.heap.size W b g (oneP (newPg tA))) => put_call h g1 0 c a2
  simp only [pt.1, pt.2] at k25
  have hb := hidden_ (Below.refl w.heap.size w)
  clear tk0 pt n0 g1
  go_enter Try.func5, Try.ntmps5
  go_wp2_with (first
    | (go_at_call 15; refine k15.mono ?_; rintro e W1 ⟨rfl, hb'⟩; clear k15; replace hb := hidden_ hb'; clear hb')
    | (go_at_call 7; refine (k7 _).mono ?_; rintro e W2 ⟨rfl, hp', hbl⟩; clear k7; have hp := hidden_ (hp' _ hb.out.size); replace hb := hidden_ (below_then hb.out hbl); clear hp' hbl)
    | (go_at_call 16; refine (k16 _ _ _ hp.out).mono ?_; rintro e W3 ⟨l1, l2, l3, rfl, r1', hp', o'⟩; clear k16; replace hp := hidden_ hp'; replace hb := hidden_ (hb.out.trans (o'.below hb.out.size)); clear r1' hp' o')
    | (go_at_call 25; refine (k25 _ _ _ hp.out).mono ?_; rintro e W4 ⟨rfl, hp', o'⟩; clear k25; replace hp := hidden_ hp'; replace hb := hidden_ (hb.out.trans (o'.below hb.out.size)); clear hp' o'))
  have hp0 : PoolAt w.heap.size W4 (W1.heap.size + 1) W1.heap.size (oneP (pgA 1 c a2)) := hp.out
  replace hp := hidden_ hp0
  clear hp0
  obtain ⟨b, eb⟩ : ∃ b, W1.heap.size + 1 = b := ⟨_, rfl⟩
  rw [eb] at hp ⊢
  clear eb
  obtain ⟨g, eg⟩ : ∃ g, W1.heap.size = g := ⟨_, rfl⟩
  rw [eg] at hp
  clear eg
  go_loopw [9] (fun i wr => ∃ k : Nat, k ≤ T ∧ i = .int .i64 k ∧ PoolAt w.heap.size wr b g (oneP (pgA (1 + k) c a2)) ∧ Below w.heap.size w wr) (fun i _ => T - (intOf i).toNat)
  case atStart => exact ⟨0, Nat.zero_le _, rfl, hp.out, hb.out⟩
  case round =>
    clear hp hb
    obtain ⟨k, hk, rfl, hp', hb'⟩ := hrel
    by_cases hlt : k < T
    · have g1 := goodA (1 + k) c a2 (by omega) (by omega)
      have sh := one_share (pgA (1 + k) c a2) (by show (1 + k : Int) ≠ 0; omega)
      have k20 := share_call hp' g1 (by decide) 0
      rw [sh.1, sh.2] at k20
      have ow := one_ow (pgA (1 + k + 1) c a2) (by show (1 + k + 1 : Int) ≠ 0; omega)
      have k23 := fun (W : World) (h : PoolAt w.heap.size W b g (oneP (pgA (1 + k + 1) c a2))) => owners_call h (one_n _) 0
      simp only [ow.1] at k23
      have k23' : ∀ (W : World), PoolAt w.heap.size W b g (oneP (pgA (1 + k + 1) c a2)) → Calls Try.prog 23 #[.pointer (some ⟨b, 0, none⟩), .int .i64 0] W fun e w' => e = .returned (.int .i64 ((k : Int) + 2)) ∧ w' = W := fun W h => by
        have := k23 W h
        rw [show (pgA (1 + (k : Int) + 1) c a2).ow = (k : Int) + 2 by show 1 + (k : Int) + 1 = _; omega] at this
        exact this
      have hb := hidden_ hb'
      have hlt' : (k : Int) < (T : Int) := by omega
      clear sh g1 ow hp' hb' k23
      go_wp2_with (first
        | (go_at_call 20; refine k20.mono ?_; rintro e W5 ⟨rfl, hp', o'⟩; clear k20; have hp := hidden_ hp'; replace hb := hidden_ (hb.out.trans (o'.below hb.out.size)); clear hp' o')
        | (go_at_call 23; refine (k23' _ hp.out).mono ?_; rintro e W6 ⟨rfl, h6⟩; obtain rfl := h6.symm; clear k23'))
      go_roundw
      case rel => exact ⟨k + 1, by omega, by go_num, by have := hp.out; rw [show 1 + ((k + 1 : Nat) : Int) = 1 + (k : Int) + 1 by omega]; exact this, hb.out⟩
      case measure => simp [intOf]; omega
    · have e : k = T := by omega
      subst e
      have hp := hidden_ hp'
      have hb := hidden_ hb'
      clear hp' hb'
      go_wp2
      go_loopw [10] (fun i wr => ∃ j : Nat, j ≤ k + 1 ∧ i = .int .i64 j ∧ (if j = k + 1 then PoolAt w.heap.size wr b g (oneP ⟨⟨#[]⟩, 0, upd (fun _ => 0) c a2⟩) else PoolAt w.heap.size wr b g (oneP (pgA ((k : Int) + 1 - j) c a2))) ∧ Below w.heap.size w wr) (fun i _ => k + 1 - (intOf i).toNat)
      case atStart => exact ⟨0, Nat.zero_le _, rfl, by rw [if_neg (by omega)]; have := hp.out; rw [show (k : Int) + 1 - ((0 : Nat) : Int) = 1 + (k : Int) by omega]; exact this, hb.out⟩
      case round =>
        clear hp hb
        obtain ⟨j, hj, rfl, hp', hb'⟩ := hrel
        by_cases hlt : j < k + 1
        · rw [if_neg (by omega)] at hp'
          have g1 := goodA ((k : Int) + 1 - j) c a2 (by omega) (by omega)
          have nz : (pgA ((k : Int) + 1 - j) c a2).ow ≠ 0 := by show (k : Int) + 1 - j ≠ 0; omega
          have gt := one_get _ nz c hc
          have ow := one_ow _ nz
          have dr := one_drop _ nz
          have k10 := get_call hp' (one_n _) 0 c
          have k24 := tag_call hp' (one_n _) 0
          have k21 := drop_call hp' g1 (by decide) 0
          rw [gt.1, gt.2] at k10
          rw [ow.2] at k24
          rw [dr.1, dr.2] at k21
          have k10' : Calls Try.prog 10 #[.pointer (some ⟨b, 0, none⟩), .int .i64 0, .int .i64 (c : Int)] wr fun e w' => e = .returned (.tuple #[.int .i64 a2, .int .i64 0]) ∧ w' = wr := by
            rw [show (pgA ((k : Int) + 1 - j) c a2).cell c = a2 from upd_same (fun _ => (0 : Int)) c a2] at k10
            exact k10
          have k24' : Calls Try.prog 24 #[.pointer (some ⟨b, 0, none⟩), .int .i64 0] wr fun e w' => e = .returned (.string tA) ∧ w' = wr := k24
          have HN : Hid (∀ W, PoolAt w.heap.size W b g (oneP (dropPg (pgA ((k : Int) + 1 - j) c a2))) → (if j + 1 = k + 1 then PoolAt w.heap.size W b g (oneP ⟨⟨#[]⟩, 0, upd (fun _ => 0) c a2⟩) else PoolAt w.heap.size W b g (oneP (pgA ((k : Int) + 1 - ((j + 1 : Nat) : Int)) c a2)))) := by
            intro W h
            by_cases e : j = k
            · rw [if_pos (by omega)]
              rw [show (k : Int) + 1 - j = 1 by omega, drop1] at h
              exact h
            · rw [if_neg (by omega)]
              rw [dropA _ _ _ (by omega)] at h
              rw [show (k : Int) + 1 - ((j + 1 : Nat) : Int) = (k : Int) + 1 - j - 1 by omega]
              exact h
          obtain ⟨D, eD⟩ : ∃ D, oneP (dropPg (pgA ((k : Int) + 1 - j) c a2)) = D := ⟨_, rfl⟩
          rw [eD] at k21 HN
          have hb := hidden_ hb'
          have hlt' : (j : Int) ≤ (k : Int) := by omega
          have qA : (tA.toList == [97]) = true := by simp [tA, ByteArray.toList_eq]
          clear g1 nz gt ow dr hp' hb' k10 k24 eD
          go_wp2_with (first
            | (go_at_call 10; refine k10'.mono ?_; rintro e W5 ⟨rfl, h5⟩; obtain rfl := h5.symm; clear k10')
            | (go_at_call 24; refine k24'.mono ?_; rintro e W6 ⟨rfl, h6⟩; obtain rfl := h6.symm; clear k24')
            | (go_at_call 21; refine k21.mono ?_; rintro e W7 ⟨rfl, hp', o'⟩; clear k21; have hp := hidden_ (HN.out _ hp'); replace hb := hidden_ (hb.out.trans (o'.below hb.out.size)); clear hp' o'))
          go_roundw
          case rel => exact ⟨j + 1, by omega, by go_num, hp.out, hb.out⟩
          case measure => simp [intOf]; omega
        · have e : j = k + 1 := by omega
          subst e
          rw [if_pos rfl] at hp'
          have gn := one_get_no ⟨⟨#[]⟩, 0, upd (fun _ => 0) c a2⟩ rfl c
          have k10 := get_call hp' (one_n _) 0 c
          rw [gn.1, gn.2] at k10
          have g1 : Good 100 (oneP ⟨⟨#[]⟩, 0, upd (fun _ => 0) c a2⟩) := one_good _ 100 (Int.le_refl _) (by show (0 : Int) ≤ 100; decide) (by simp [ByteArray.toList_eq])
          have tb := one_take tB tB_ne ⟨⟨#[]⟩, 0, upd (fun _ => 0) c a2⟩ rfl
          have k16 := take_call hp' g1 tB 1
          rw [tb.1, tb.2.1, tb.2.2] at k16
          have gt := one_get (newPg tB) (by decide) c hc
          have ow := one_ow (newPg tB) (by decide)
          have k10b := fun (W : World) (h : PoolAt w.heap.size W b g (oneP (newPg tB))) => get_call h (one_n _) 0 c
          have k23 := fun (W : World) (h : PoolAt w.heap.size W b g (oneP (newPg tB))) => owners_call h (one_n _) 0
          simp only [gt.1, gt.2] at k10b
          simp only [ow.1] at k23
          have k10b' : ∀ (W : World), PoolAt w.heap.size W b g (oneP (newPg tB)) → Calls Try.prog 10 #[.pointer (some ⟨b, 0, none⟩), .int .i64 0, .int .i64 (c : Int)] W fun e w' => e = .returned (.tuple #[.int .i64 0, .int .i64 0]) ∧ w' = W := k10b
          have k23' : ∀ (W : World), PoolAt w.heap.size W b g (oneP (newPg tB)) → Calls Try.prog 23 #[.pointer (some ⟨b, 0, none⟩), .int .i64 0] W fun e w' => e = .returned (.int .i64 1) ∧ w' = W := k23
          have hb := hidden_ hb'
          clear gn g1 tb gt ow hp' hb' k10b k23
          go_wp2_with (first
            | (go_at_call 10; refine k10.mono ?_; rintro e W5 ⟨rfl, h5⟩; obtain rfl := h5.symm; clear k10)
            | (go_at_call 16; refine k16.mono ?_; rintro e W6 ⟨q1, q2, q3, rfl, r1', hp', o'⟩; clear k16; have hp := hidden_ hp'; have hl : 1 = q2 := r1'.len; subst hl; replace hb := hidden_ (hb.out.trans (o'.below hb.out.size)); clear hp' o' r1')
            | (go_at_call 10; refine (k10b' _ hp.out).mono ?_; rintro e W7 ⟨rfl, h7⟩; obtain rfl := h7.symm; clear k10b')
            | (go_at_call 23; refine (k23' _ hp.out).mono ?_; rintro e W8 ⟨rfl, h8⟩; obtain rfl := h8.symm; clear k23'))
          go_ret
          exact ⟨rfl, hb.out⟩

theorem contract (H : Type) (enc : TypeId × Value → H) (W : World) (base : Nat) (args : Array Value) (ds gs : List (DataW H)) (before : List MemPlace)
    (hval0 : ∀ (j : Nat) t v, Try.f5.params[j]? = some t → args[j]? = some v → Value.okWide Try.prog W .any base t v)
    (hW : DataW.Whole enc Try.prog Try.f5.params.toList Rows.poolOwnersSpec.vars false W args.toList ds gs before) :
    Calls Try.prog 5 args W fun e W' => ∃ v, e = .returned v ∧ Rows.poolOwnersSpec.post enc Try.prog Try.f5 false true false false W args v W' := by
  have hval : ∀ (j : Nat) t v, Try.f5.params[j]? = some t → args[j]? = some v → Value.okWide Try.prog W .any base t v := hval0
  have hW' := hW
  obtain ⟨p, q, hA0, hV, rfl, hfz, hnd⟩ := hW
  have hA : DataW.TrodAll enc Try.prog W 0 (fun _ => true) true Try.f5.params.toList args.toList ds p := hA0
  rw [Try.params5] at hA hval
  obtain ⟨v0, vs0, d0, ds0, p0, q0, hargs, rfl, rfl, h0, r0⟩ := trodAll_cons hA
  obtain ⟨v1, vs1, d1, ds1, p1, q1, rfl, rfl, rfl, h1, r1⟩ := trodAll_cons r0
  obtain ⟨v2, vs2, d2, ds2, p2, q2, rfl, rfl, rfl, h2, r2⟩ := trodAll_cons r1
  obtain ⟨rfl, rfl, rfl⟩ := trodAll_nil r2
  obtain rfl : args = #[v0, v1, v2] := by cases args; simp_all
  obtain ⟨rfl, rfl⟩ := trodVars_none hV
  obtain ⟨a0, rfl, rfl, rfl, w0⟩ := open_int Try.underlying3 (hval 0 3 v0 rfl rfl) h0
  obtain ⟨a1, rfl, rfl, rfl, w1⟩ := open_int Try.underlying3 (hval 1 3 v1 rfl rfl) h1
  obtain ⟨a2, rfl, rfl, rfl, w2⟩ := open_int Try.underlying2 (hval 2 2 v2 rfl rfl) h2
  clear hA0 hval0
  refine (walk a0 a1 a2 W w0 w1 w2).mono fun e W' ⟨he, bel⟩ => ?_
  subst he
  exact ⟨_, rfl, _, _, _, [], _, [], hW', trodAll_mk1 (shut_bool Try.underlying4 _), (trodAll_cons_mk (shut_int Try.underlying3 w0) (trodAll_cons_mk (shut_int Try.underlying3 w1) (trodAll_cons_mk (shut_int Try.underlying2 w2) trodAll_mk0))), rfl, bel.frame _, fun h => by cases h⟩

set_option maxRecDepth 100000 in
theorem lifted (os : Os) (started : os.Started) (H : Type) (enc : TypeId × Value → H) :
    ReturnsInHanded {} Try.checked os 5 .any (Rows.poolOwnersSpec.pre6 enc Try.prog Try.f5 Rows.poolOwnersRow.domain false) (Rows.poolOwnersSpec.post enc Try.prog Try.f5 false true false false) := by
  refine returnsInHanded_of_change (C := Try.checked) own started (by kernel_rfl) Try.func5
    (ChangeSpec.witness6 (enc := enc) (C := Try.checked) false ⟨#[], #[.int .i64 0, .int .i64 0, .int .i64 0], []⟩ 8 (by kernel_rfl) (by kernel_rfl) (by kernel_rfl) (by kernel_rfl)) ?_
  intro W base args ds gs before hval hW _ _
  exact contract H enc W base args ds gs before hval hW

theorem over : Rows.poolOwnersRow.holds Try.pinned (OpenSpec.ofChange Rows.poolOwnersSpec) :=
  OpenClaim.holds_of_wide 5 Try.f5 rfl rfl rfl rfl rfl rfl rfl ⟨rfl, rfl, rfl, rfl, rfl⟩ rfl rfl rfl rfl rfl (by kernel_rfl) Try.func5 (by kernel_rfl)
    (of_decide_eq_true (by kernel_rfl)) (by unfold Func.isWrapper; first | (rw [if_pos (by decide +kernel)]; kernel_rfl) | (rw [if_neg (by decide +kernel)]; exact ⟨rfl, rfl⟩))
    (fun os started H enc _ => lifted os started H enc)

theorem proved : Rows.PoolOwnersSaid :=
  over
#print axioms proved
end Go.Proofs.Ytjkjfgmbjcjofaa.poolOwners
