/- For every count, score and heat the Go function DrawShares returns true (of two to seven scores that are the same each is chosen by its share of the numbers) and leaves its arguments as they were; no condition. -/
import Derived.Test.YtkoifogkdbhpcaaRows
import Derived.Test.YtkoifogkdbhpcaaView
import Derived.Test.YtkoifogkdbhpcaaOwn
import Derived.Test.YtkoifogkdbhpcaaSat
import Derived.Test.YtkoifogkdbhpcaaDrBits
import Derived.Test.YtkoifogkdbhpcaaDrZ
import Derived.Test.YtkoifogkdbhpcaaDrSame
import Derived.Test.YtkoifogkdbhpcaaDrChoose
import Derived.Test.YtkoifogkdbhpcaaDrWorks
import Derived.WalkKit
import Derived.ProofKit
import Derived.OpenShut
import Derived.ChangeOld
import Derived.Below
import Derived.WalkLawsBesides
import Derived.ChangeMaps5
namespace Go.Proofs.Ytkoifogkdbhpcaa.drawShares
open Go.ChangeShapes Go.WideShapes Go.ChangeAt Go.RowKit
set_option linter.unusedVariables false
set_option linter.unusedSimpArgs false

theorem own : ownKnob Try.prog.godebug = none := by kernel_rfl
theorem laidOut : laidOutB Try.prog = true := by kernel_rfl

theorem six (a : Int) : ∃ n : Nat, wrap64 ((IntKind.u64.wrap a).tmod 6) = (n : Int) ∧ n ≤ 5 := by
  have b := wrap_bounds a
  rw [Int.tmod_eq_emod_of_nonneg b.1, wrap64_eq]
  exact ⟨((IntKind.u64.wrap a) % 6).toNat, by omega, by omega⟩

theorem hot (a : Int) : 0 ≤ wrap64 ((IntKind.u64.wrap a).tmod 1073741824) ∧ wrap64 ((IntKind.u64.wrap a).tmod 1073741824) < 1073741824 := by
  have b := wrap_bounds a
  rw [Int.tmod_eq_emod_of_nonneg b.1, wrap64_eq]
  omega

theorem part_u {n : Nat} (h2 : 2 ≤ n) (h7 : n ≤ 7) : IntKind.u64.wrap ((65536 : Int) / (n : Int)) = partN n := by
  have : n = 2 ∨ n = 3 ∨ n = 4 ∨ n = 5 ∨ n = 6 ∨ n = 7 := by omega
  rcases this with h | h | h | h | h | h <;> subst h <;> decide +kernel

theorem prod_small {j : Nat} (hj : j ≤ 7) {S : Int} (h0 : 0 ≤ S) (h1 : S ≤ 32768) : 0 ≤ (j : Int) * S ∧ (j : Int) * S ≤ 229376 := by
  have e : ((j : Int)) ≤ 7 := by omega
  have a := Int.mul_le_mul e h1 h0 (by decide)
  exact ⟨Int.mul_nonneg (by omega) h0, a⟩

theorem row_same {w : World} {B : Nat} {v : Value} {n : Nat} {z : Int} (hz : (Lit.int .i64 z).wf = true) (ho : w.ownsRow B 2 1 v n (gath (fun _ => z) .i64 n)) : ∃ a c, v = .slice a n c ∧ Reads .i64 w a n (List.replicate n z) :=
  own_reads ho (by simp) (fun y hy => by rw [List.eq_of_mem_replicate hy]; exact hz) fun j hj => by rw [gath_at _ _ _ _ hj, same_at n z hj]


set_option maxHeartbeats 400000 in
theorem walk (a0 : Int) (a1 : Int) (a2 : Int) (w : World) (w0 : (Lit.int .i64 a0).wf = true) (w1 : (Lit.int .i64 a1).wf = true) (w2 : (Lit.int .i64 a2).wf = true) :
    Calls Try.prog 6 #[.int .i64 a0, .int .i64 a1, .int .i64 a2] w fun e w' => e = .returned (.bool true) ∧ Below w.heap.size w w' := by
  have kw := works_call w
  obtain ⟨n, en, hn⟩ := six a0
  obtain ⟨N, eN⟩ : ∃ N : Nat, N = n + 2 := ⟨_, rfl⟩
  have eN' : (2 : Int) + (n : Int) = (N : Int) := by omega
  have hN2 : 2 ≤ N := by omega
  have hN7 : N ≤ 7 := by omega
  have hh := hot a2
  obtain ⟨H0, eH⟩ : ∃ H0, wrap64 ((IntKind.u64.wrap a2).tmod 1073741824) = H0 := ⟨_, rfl⟩
  rw [eH] at hh
  obtain ⟨i0, hi, hz0, hz1, hz2⟩ := info_parts info2
  have hS := part_u hN2 hN7
  have bS := part_bounds hN2 hN7
  clear eN
  go_enter Try.func6, Try.ntmps6
  go_wp2_with (go_at_call 14; refine kw.mono ?_; rintro e wA ⟨rfl, hA⟩; clear kw)
  clear en eH
  go_loopw [7, 8] (fun v i wr => ∃ k : Nat, k ≤ N ∧ i = .int .i64 k ∧ Below w.heap.size w wr ∧ wr.ownsRow w.heap.size 2 1 v k (gath (fun _ => a1) .i64 k)) (fun _ i _ => N - (intOf i).toNat)
  case atStart => exact ⟨0, Nat.zero_le _, rfl, hA, World.ownsRow_nil _ _ _ _⟩
  case round =>
    obtain ⟨k, hk, rfl, hbr, ho⟩ := hrel
    have hsz := hbr.size
    by_cases hlt : k < N
    · clear hS bS hh
      go_wp2_with (at_builtin; refine wpList_append_own _ rfl (.tmp 28) (.tmp 30) 29 rfl w.heap.size 2 i0 (.int .i64 0) 1 8 Try.underlying29 hi hz0 hz1 hz2 rfl (by decide) _ _ _ rfl (ho.alloc _) ⟨_, 0, none⟩ 1 1 [.int .i64 a1] rfl rfl (one_new _ _ _) (one_oneCell _ _) (by unfold maxLen; omega) (by omega) (by simp; omega) ?_; intro v' w1 ho' hg _)
      have st := append_step hsz rfl hbr ho ho' hg
      go_roundw
      case rel => exact ⟨k + 1, by omega, by go_num, st⟩
      case measure => simp [intOf]; omega
    · have e : k = N := by omega
      subst e
      obtain ⟨a, c, rfl, hr⟩ := row_same w1 ho
      rename World => wB
      obtain ⟨S, eS⟩ : ∃ S, partN k = S := ⟨_, rfl⟩
      have hS' : IntKind.u64.wrap ((65536 : Int) / (k : Int)) = S := by rw [hS, eS]
      have hk0 : ¬(k : Int) = 0 := by omega
      have Hh : Hid (0 ≤ H0 ∧ H0 < 1073741824) := hh
      have wH : (Lit.int .i64 (1 + H0)).wf = true := WalkArith.wf_i64 ⟨by omega, by omega⟩
      rw [eS] at bS
      clear hS ho hi hz0 hz1 hz2 hA eN' hn
      go_wp2
      go_loopw [10] (fun i wr => ∃ j : Nat, j ≤ k ∧ i = .int .i64 j ∧ Below w.heap.size w wr ∧ Below wB.heap.size wB wr) (fun i _ => k - (intOf i).toNat)
      case atStart => exact ⟨0, Nat.zero_le _, rfl, hbr, Below.refl _ _⟩
      case round =>
        obtain ⟨j, hj, rfl, hbj, hbj2⟩ := hrel
        have rj := hr.below hbj2
        by_cases hlt : j < k
        · have ce := choose_edge hN2 hN7 a1 (1 + H0) (by omega) hlt
          rw [eS] at ce
          have p1 := prod_small (show j ≤ 7 by omega) (show 0 ≤ S by omega) bS.2
          have p2 := prod_small (show j + 1 ≤ 7 by omega) (show 0 ≤ S by omega) bS.2
          have ej : ((j + 1 : Nat) : Int) = (j : Int) + 1 := by omega
          rw [ej] at p2
          have e2p : ((j : Int) + 1) * S = (j : Int) * S + S := by rw [Int.add_mul, Int.one_mul]
          obtain ⟨U1, eU1⟩ : ∃ U1, (j : Int) * S = U1 := ⟨_, rfl⟩
          obtain ⟨U2, eU2⟩ : ∃ U2, ((j : Int) + 1) * S = U2 := ⟨_, rfl⟩
          rw [eU1] at p1 ce e2p
          rw [eU2] at p2 ce e2p
          have e1 : IntKind.u64.wrap U1 = U1 := wrap_small p1.1 (by omega)
          have e2 : IntKind.u64.wrap U2 = U2 := wrap_small p2.1 (by omega)
          have e3 : IntKind.u64.wrap (U2 - 1) = U2 - 1 := wrap_small (by omega) (by omega)
          obtain ⟨U3, eU3⟩ : ∃ U3, U2 - 1 = U3 := ⟨_, rfl⟩
          have q1 : (Lit.int .u64 U1).wf = true := WalkArith.wf_u64 ⟨by omega, by omega⟩
          have q3 : (Lit.int .u64 U3).wf = true := WalkArith.wf_u64 ⟨by omega, by omega⟩
          have r3 : IntKind.u64.wrap U3 = U3 := by rw [← eU3]; exact e3
          rw [eU3] at ce
          clear e3
          have k1 := choose_call a k c (List.replicate k a1) k (1 + H0) U1 _ rj (by omega) wH q1
          rw [ce.1] at k1
          have k2 := fun (W : World) (h : Reads .i64 W a k (List.replicate k a1)) => choose_call a k c (List.replicate k a1) k (1 + H0) U3 W h (by omega) wH q3
          rw [ce.2] at k2
          have Eb : Hid (Below w.heap.size w wr ∧ Below wB.heap.size wB wr) := ⟨hbj, hbj2⟩
          clear ce p1 p2 ej e2p hbj hbj2 q1 q3 eS hbr hr
          go_wp2_with (first
            | (go_at_call 12; refine k1.mono ?_; rintro e W1 ⟨rfl, hb1⟩; clear k1)
            | (go_at_call 12; refine (k2 _ (rj.below hb1)).mono ?_; rintro e W2 ⟨rfl, hb2⟩; clear k2; have hb12 := below_then hb1 hb2))
          exact ⟨⟨j + 1, by omega, by go_num, below_then Eb.out.1 hb12, below_then Eb.out.2 hb12⟩, by simp [intOf]; omega⟩
        · have e : j = k := by omega
          subst e
          have cr := choose_round hN2 hN7 a1 (1 + H0) (by omega)
          rw [eS] at cr
          have p1 := prod_small hN7 (show 0 ≤ S by omega) bS.2
          obtain ⟨U1, eU1⟩ : ∃ U1, (j : Int) * S = U1 := ⟨_, rfl⟩
          rw [eU1] at p1 cr
          have e1 : IntKind.u64.wrap U1 = U1 := wrap_small p1.1 (by omega)
          have q1 : (Lit.int .u64 U1).wf = true := WalkArith.wf_u64 ⟨by omega, by omega⟩
          have k1 := choose_call a j c (List.replicate j a1) j (1 + H0) U1 _ rj (by omega) wH q1
          rw [cr] at k1
          clear cr p1 q1 eS hbr hr
          go_wp2_with (go_at_call 12; refine k1.mono ?_; rintro e W1 ⟨rfl, hb1⟩; clear k1)
          all_goals (go_ret; exact ⟨rfl, below_then hbj hb1⟩)

theorem contract (H : Type) (enc : TypeId × Value → H) (W : World) (base : Nat) (args : Array Value) (ds gs : List (DataW H)) (before : List MemPlace)
    (hval0 : ∀ (j : Nat) t v, Try.f6.params[j]? = some t → args[j]? = some v → Value.okWide Try.prog W .any base t v)
    (hW : DataW.Whole enc Try.prog Try.f6.params.toList Rows.drawSharesSpec.vars false W args.toList ds gs before) :
    Calls Try.prog 6 args W fun e W' => ∃ v, e = .returned v ∧ Rows.drawSharesSpec.post enc Try.prog Try.f6 false true false false W args v W' := by
  have hval : ∀ (j : Nat) t v, Try.f6.params[j]? = some t → args[j]? = some v → Value.okWide Try.prog W .any base t v := hval0
  have hW' := hW
  obtain ⟨p, q, hA0, hV, rfl, hfz, hnd⟩ := hW
  have hA : DataW.TrodAll enc Try.prog W 0 (fun _ => true) true Try.f6.params.toList args.toList ds p := hA0
  rw [Try.params6] at hA hval
  obtain ⟨v0, vs0, d0, ds0, p0, q0, hargs, rfl, rfl, h0, r0⟩ := trodAll_cons hA
  obtain ⟨v1, vs1, d1, ds1, p1, q1, rfl, rfl, rfl, h1, r1⟩ := trodAll_cons r0
  obtain ⟨v2, vs2, d2, ds2, p2, q2, rfl, rfl, rfl, h2, r2⟩ := trodAll_cons r1
  obtain ⟨rfl, rfl, rfl⟩ := trodAll_nil r2
  obtain rfl : args = #[v0, v1, v2] := by cases args; simp_all
  obtain ⟨rfl, rfl⟩ := trodVars_none hV
  obtain ⟨a0, rfl, rfl, rfl, w0⟩ := open_int Try.underlying3 (hval 0 3 v0 rfl rfl) h0
  obtain ⟨a1, rfl, rfl, rfl, w1⟩ := open_int Try.underlying2 (hval 1 2 v1 rfl rfl) h1
  obtain ⟨a2, rfl, rfl, rfl, w2⟩ := open_int Try.underlying2 (hval 2 2 v2 rfl rfl) h2
  clear hA0 hval0
  refine (walk a0 a1 a2 W w0 w1 w2).mono fun e W' ⟨he, bel⟩ => ?_
  subst he
  exact ⟨_, rfl, _, _, _, [], _, [], hW', trodAll_mk1 (shut_bool Try.underlying4 _), (trodAll_cons_mk (shut_int Try.underlying3 w0) (trodAll_cons_mk (shut_int Try.underlying2 w1) (trodAll_cons_mk (shut_int Try.underlying2 w2) trodAll_mk0))), rfl, bel.frame _, fun h => by cases h⟩

set_option maxRecDepth 100000 in
theorem lifted (os : Os) (started : os.Started) (H : Type) (enc : TypeId × Value → H) :
    ReturnsInHanded {} Try.checked os 6 .any (Rows.drawSharesSpec.pre6 enc Try.prog Try.f6 Rows.drawSharesRow.domain false) (Rows.drawSharesSpec.post enc Try.prog Try.f6 false true false false) := by
  refine returnsInHanded_of_change (C := Try.checked) own started (by kernel_rfl) Try.func6
    (ChangeSpec.witness6 (enc := enc) (C := Try.checked) false ⟨#[], #[.int .i64 0, .int .i64 0, .int .i64 0], []⟩ 8 (by kernel_rfl) (by kernel_rfl) (by kernel_rfl) (by kernel_rfl)) ?_
  intro W base args ds gs before hval hW _ _
  exact contract H enc W base args ds gs before hval hW

theorem over : Rows.drawSharesRow.holds Try.pinned (OpenSpec.ofChange Rows.drawSharesSpec) :=
  OpenClaim.holds_of_wide 6 Try.f6 rfl rfl rfl rfl rfl rfl rfl ⟨rfl, rfl, rfl, rfl, rfl⟩ rfl rfl rfl rfl rfl (by kernel_rfl) Try.func6 (by kernel_rfl)
    (of_decide_eq_true (by kernel_rfl)) (by unfold Func.isWrapper; first | (rw [if_pos (by decide +kernel)]; kernel_rfl) | (rw [if_neg (by decide +kernel)]; exact ⟨rfl, rfl⟩))
    (fun os started H enc _ => lifted os started H enc)

theorem proved : Rows.DrawSharesSaid :=
  over
#print axioms proved
end Go.Proofs.Ytkoifogkdbhpcaa.drawShares
