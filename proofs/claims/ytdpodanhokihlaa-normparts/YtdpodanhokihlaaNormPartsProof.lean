/- For every row of at most 1000 numbers, the shares that the program's Soft answers are from nought to one, together at most one, and of two neighbours the greater has no lesser share; for longer rows nothing is asked but the examples. -/
import Derived.Test.YtdpodanhokihlaaRows
import Derived.Test.YtdpodanhokihlaaSat
import Derived.Test.YtdpodanhokihlaaView
import Derived.Test.YtdpodanhokihlaaOwn
import Derived.Test.YtdpodanhokihlaaSteps
import Derived.Test.YtdpodanhokihlaaExp
import Derived.Test.YtdpodanhokihlaaOrder
import Derived.Test.YtdpodanhokihlaaSoft
import Derived.Test.YtdpodanhokihlaaWorks
import Derived.Test.YtdpodanhokihlaaRms
import Derived.Test.YtdpodanhokihlaaMean
import Derived.Test.YtdpodanhokihlaaSame
import Derived.Test.YtdpodanhokihlaaLooks
import Derived.Test.YtdpodanhokihlaaParts
import Derived.WalkKit
import Derived.ProofKit
import Derived.OpenShut
import Derived.ChangeOld
import Derived.Below
import Derived.WalkLawsBesides
namespace Go.Proofs.Ytdpodanhokihlaa.normParts
open Go.ChangeShapes Go.WideShapes Go.ChangeAt Go.RowKit
set_option linter.unusedVariables false
set_option linter.unusedSimpArgs false

theorem own : ownKnob Try.prog.godebug = none := by kernel_rfl
theorem laidOut : laidOutB Try.prog = true := by kernel_rfl


set_option maxHeartbeats 4000000 in
set_option maxRecDepth 20000 in
theorem walk (a0 : Option Addr) (n0 c0 : Nat) (z0 : List Int) (w : World) (w0 : Reads .i64 w a0 n0 z0) (e0 : a0 = none → c0 = 0) (l0 : n0 ≤ c0) :
    Calls Try.prog 6 #[.slice a0 n0 c0] w fun e w' => e = .returned (.bool true) ∧ Below w.heap.size w w' := by
  obtain ⟨i0, hi, hz0, hz1, hz2⟩ := info_parts info2
  have hm := w0.max
  by_cases s0 : 1000 < n0
  · have s1 : (1000 : Int) < (n0 : Int) := by omega
    go_enter Try.func6, Try.ntmps6
    go_wp2_with (go_at_call 16; refine (works_call _).mono ?_; rintro e W1 ⟨rfl, hb1⟩)
    go_ret
    exact ⟨rfl, hb1⟩
  have hn : n0 ≤ 1000 := by omega
  have k1 : ∀ W p q, Reads .i64 W p n0 z0 → Calls Try.prog 12 #[.slice p n0 q] W fun e w' => (∃ a c, e = .returned (.slice a n0 c) ∧ Reads .i64 w' a n0 (softZ z0 n0)) ∧ Below W.heap.size W w' :=
    fun W p q h => soft_call _ _ _ _ _ h (by omega)
  go_enter Try.func6, Try.ntmps6
  go_wp2_with (first
    | (go_at_call 16; refine (works_call _).mono ?_; rintro e W1 ⟨rfl, hb1⟩)
    | (at_builtin; refine wpList_copy rfl (.tmp 11) (.tmp 12) 22 rfl w.heap.size 2 i0 (.int .i64 0) 8 Try.underlying22 hi hz0 hz1 hz2 rfl _ 0 [] rfl (World.ownsRow_lit _ #[] 0 hb1.size (by decide) rfl) .i64 a0 n0 c0 z0 rfl (w0.below (below_new hb1 _)) e0 (by unfold maxLen; omega) (by omega) (below_new hb1 _).size ?_; intro v2 W2 ho2 hg2; obtain ⟨p2, q2, rfl, r2, hb2, -⟩ := copied hb1 _ ho2 hg2 w0; clear ho2 hg2)
    | (go_at_call 12; refine (k1 _ _ _ r2).mono ?_; rintro e W3 ⟨⟨p3, q3, rfl, r3⟩, hb3⟩; replace hb3 := below_then hb2 hb3; clear r2 k1))
  have r0 := w0.below hb3
  clear hi hz0 hz1 hz2 hb1 hb2
  go_loopw [4, 5] (fun s i wr => ∃ k : Nat, k ≤ n0 ∧ i = .int .i64 k ∧ s = .int .i64 (sumL (softZ z0 n0) k) ∧ ∃ m, wr = W3.drewN m) (fun _ i _ => n0 - (intOf i).toNat)
  case atStart => exact ⟨0, Nat.zero_le _, rfl, rfl, 0, rfl⟩
  case round =>
    obtain ⟨k, hk, rfl, rfl, m, hw⟩ := hrel
    have Hw : Hid (wr = W3.drewN m) := hw
    have r0 : Reads .i64 wr a0 n0 z0 := by rw [hw]; exact r0.drewN m
    have r3 : Reads .i64 wr p3 n0 (softZ z0 n0) := by rw [hw]; exact r3.drewN m
    clear hw
    by_cases hlt : k < n0
    · obtain ⟨x, rfl⟩ := w0.some_ (by omega)
      obtain ⟨y, rfl⟩ := r3.some_ (by omega)
      have cx := r0.cell x rfl k hlt
      have cy := r3.cell y rfl k hlt
      have sb := soft_sum z0 n0 k hn (by omega)
      have pb := (soft_val z0 n0 k hn hlt).2
      have es : sumL (softZ z0 n0) (k + 1) = sumL (softZ z0 n0) k + (softZ z0 n0).getD k 0 := rfl
      by_cases k0 : k = 0
      · subst k0
        obtain ⟨X, eX⟩ : ∃ X, z0.getD 0 0 = X := ⟨_, rfl⟩
        obtain ⟨P, eP⟩ : ∃ P, (softZ z0 n0).getD 0 0 = P := ⟨_, rfl⟩
        obtain ⟨S, eS⟩ : ∃ S, sumL (softZ z0 n0) 0 = S := ⟨_, rfl⟩
        rw [eX] at cx
        rw [eP] at cy pb es
        rw [eS] at sb es ⊢
        have Es : Hid (sumL (softZ z0 n0) (0 + 1) = S + P) := es
        rw [Addr.add_zero'] at cx cy
        obtain ⟨p0, p1⟩ := pb
        obtain ⟨q0, q1⟩ := sb
        clear eX eP eS es w0 r0 r3
        have d1 : decide (P < 0) = false := by simp; omega
        have d2 : decide (65536 < P) = false := by simp; omega
        go_wp2
        simp only [List.append_eq, List.cons_append, List.nil_append]
        go_big_quiet (fail)
        go_wp2
        go_roundw
        case rel => exact ⟨0 + 1, by omega, by go_num, by rw [Es.out], _, by rw [Hw.out, World.drewN_drewN]⟩
        case measure => simp [intOf]; omega
      · obtain ⟨K, eK⟩ : ∃ K, k = K + 1 := ⟨k - 1, by omega⟩
        have ek : (k : Int) - 1 = (K : Int) := by omega
        have kp : (0 : Int) < (k : Int) := by omega
        have dk : decide (0 < k) = true := by simp; omega
        have hK : K < n0 := by omega
        have dx := r0.cell x rfl K hK
        have dy := r3.cell y rfl K hK
        have up := soft_rises z0 n0 K k hn hK hlt
        have dn := soft_rises z0 n0 k K hn hlt hK
        obtain ⟨X, eX⟩ : ∃ X, z0.getD k 0 = X := ⟨_, rfl⟩
        obtain ⟨Y, eY⟩ : ∃ Y, z0.getD K 0 = Y := ⟨_, rfl⟩
        obtain ⟨P, eP⟩ : ∃ P, (softZ z0 n0).getD k 0 = P := ⟨_, rfl⟩
        obtain ⟨Q, eQ⟩ : ∃ Q, (softZ z0 n0).getD K 0 = Q := ⟨_, rfl⟩
        obtain ⟨S, eS⟩ : ∃ S, sumL (softZ z0 n0) k = S := ⟨_, rfl⟩
        rw [eX] at cx up dn
        rw [eY] at dx up dn
        rw [eP] at cy pb es up dn
        rw [eQ] at dy up dn
        rw [eS] at sb es ⊢
        have Es : Hid (sumL (softZ z0 n0) (k + 1) = S + P) := es
        have E1 : Hid (k = K + 1) := eK
        obtain ⟨p0, p1⟩ := pb
        obtain ⟨q0, q1⟩ := sb
        clear eX eY eP eQ eS es w0 r0 r3 eK
        rcases Int.lt_trichotomy X Y with h | h | h
        · have h' := dn (by omega)
          clear up dn
          have d1 : decide (P < 0) = false := by simp; omega
          have d2 : decide (65536 < P) = false := by simp; omega
          have d3 : decide (Y < X) = false := by simp; omega
          have d4 : decide (X < Y) = true := by simp; omega
          have d6 : decide (Q < P) = false := by simp; omega
          go_wp2
          simp only [List.append_eq, List.cons_append, List.nil_append]
          go_big_quiet (fail)
          go_wp2
          go_roundw
          case rel => exact ⟨k + 1, by omega, by go_num, by rw [Es.out], _, by rw [Hw.out, World.drewN_drewN]⟩
          case measure => simp [intOf]; omega
        · subst h
          clear up dn
          have d1 : decide (P < 0) = false := by simp; omega
          have d2 : decide (65536 < P) = false := by simp; omega
          have d3 : decide (X < X) = false := by simp
          go_wp2
          simp only [List.append_eq, List.cons_append, List.nil_append]
          go_big_quiet (fail)
          go_wp2
          go_roundw
          case rel => exact ⟨k + 1, by omega, by go_num, by rw [Es.out], _, by rw [Hw.out, World.drewN_drewN]⟩
          case measure => simp [intOf]; omega
        · have h' := up (by omega)
          clear up dn
          have d1 : decide (P < 0) = false := by simp; omega
          have d2 : decide (65536 < P) = false := by simp; omega
          have d3 : decide (Y < X) = true := by simp; omega
          have d4 : decide (X < Y) = false := by simp; omega
          have d5 : decide (P < Q) = false := by simp; omega
          go_wp2
          simp only [List.append_eq, List.cons_append, List.nil_append]
          go_big_quiet (fail)
          go_wp2
          go_roundw
          case rel => exact ⟨k + 1, by omega, by go_num, by rw [Es.out], _, by rw [Hw.out, World.drewN_drewN]⟩
          case measure => simp [intOf]; omega
    · have e : k = n0 := by omega
      subst e
      have sb := soft_sum z0 k k hn (by omega)
      obtain ⟨S, eS⟩ : ∃ S, sumL (softZ z0 k) k = S := ⟨_, rfl⟩
      rw [eS] at sb ⊢
      clear eS
      obtain ⟨q0, q1⟩ := sb
      go_wp2
      go_ret
      exact ⟨rfl, below_drew hb3 ⟨_, Hw.out⟩⟩

theorem contract (H : Type) (enc : TypeId × Value → H) (W : World) (base : Nat) (args : Array Value) (ds gs : List (DataW H)) (before : List MemPlace)
    (hval0 : ∀ (j : Nat) t v, Try.f6.params[j]? = some t → args[j]? = some v → Value.okWide Try.prog W .any base t v)
    (hW : DataW.Whole enc Try.prog Try.f6.params.toList Rows.normPartsSpec.vars false W args.toList ds gs before) :
    Calls Try.prog 6 args W fun e W' => ∃ v, e = .returned v ∧ Rows.normPartsSpec.post enc Try.prog Try.f6 false true false false W args v W' := by
  have hval : ∀ (j : Nat) t v, Try.f6.params[j]? = some t → args[j]? = some v → Value.okWide Try.prog W .any base t v := hval0
  have hW' := hW
  obtain ⟨p, q, hA0, hV, rfl, hfz, hnd⟩ := hW
  have hA : DataW.TrodAll enc Try.prog W 0 (fun _ => true) true Try.f6.params.toList args.toList ds p := hA0
  rw [Try.params6] at hA hval
  obtain ⟨v0, vs0, d0, ds0, p0, q0, hargs, rfl, rfl, h0, r0⟩ := trodAll_cons hA
  obtain ⟨rfl, rfl, rfl⟩ := trodAll_nil r0
  obtain rfl : args = #[v0] := by cases args; simp_all
  obtain ⟨rfl, rfl⟩ := trodVars_none hV
  obtain ⟨a0, n0, c0, rfl⟩ := okWide_slice Try.underlying22 (hval 0 22 v0 rfl rfl)
  have k0 := h0
  have lt0 : ∀ x ∈ p0, x.block < W.heap.size := by obtain ⟨m, hm⟩ := k0; exact DataW.trod_lt m _ _ _ hm
  obtain ⟨z0, w0, e0, l0, s0⟩ : ∃ zs, Reads .i64 W a0 n0 zs ∧ (a0 = none → c0 = 0) ∧ n0 ≤ c0 ∧ (n0 = 0 ∨ ∃ el sp, d0 = .slice el sp ∧ n0 ≤ el.length + sp.length) := by
    obtain ⟨fuel, hf⟩ := h0
    rcases open_ints Try.underlying22 Try.underlying2 (by kernel_rfl) hf with ⟨hcs, hd⟩ | ⟨x, l, c, zs, hcs, _, hl, hm, hz, hd, hcell, hwz⟩
    · simp [Value.cells] at hcs
      obtain ⟨rfl, rfl, rfl⟩ := hcs
      exact ⟨[], Reads.nil _ _, fun _ => rfl, Nat.le_refl _, .inl rfl⟩
    · simp [Value.cells] at hcs
      obtain ⟨rfl, rfl, rfl⟩ := hcs
      exact ⟨_, Reads.of_open hl hm (by simpa using hz) hcell hwz, (fun h => by cases h), hl, .inr ⟨_, _, congrArg Prod.fst hd, open_length (by simpa using hz) hl⟩⟩
  clear hA0 hval0
  refine (walk a0 n0 c0 z0 W w0 e0 l0).mono fun e W' ⟨he, bel⟩ => ?_
  subst he
  exact ⟨_, rfl, _, _, _, [], _, [], hW', trodAll_mk1 (shut_bool Try.underlying4 _), (trodAll_cons_mk (Below.trod laidOut (by kernel_rfl) (of_decide_eq_true (by kernel_rfl)) k0 bel lt0) trodAll_mk0), rfl, bel.frame _, fun h => by cases h⟩

set_option maxRecDepth 100000 in
theorem lifted (os : Os) (started : os.Started) (H : Type) (enc : TypeId × Value → H) :
    ReturnsInHanded {} Try.checked os 6 .any (Rows.normPartsSpec.pre6 enc Try.prog Try.f6 Rows.normPartsRow.domain false) (Rows.normPartsSpec.post enc Try.prog Try.f6 false true false false) := by
  refine returnsInHanded_of_change (C := Try.checked) own started (by kernel_rfl) Try.func6
    (ChangeSpec.witness6 (enc := enc) (C := Try.checked) false ⟨#[], #[.slice none 0 0], []⟩ 8 (by kernel_rfl) (by kernel_rfl) (by kernel_rfl) (by kernel_rfl)) ?_
  intro W base args ds gs before hval hW _ _
  exact contract H enc W base args ds gs before hval hW

theorem over : Rows.normPartsRow.holds Try.pinned (OpenSpec.ofChange Rows.normPartsSpec) :=
  OpenClaim.holds_of_wide 6 Try.f6 rfl rfl rfl rfl rfl rfl rfl ⟨rfl, rfl, rfl, rfl, rfl⟩ rfl rfl rfl rfl rfl (by kernel_rfl) Try.func6 (by kernel_rfl)
    (of_decide_eq_true (by kernel_rfl)) (by unfold Func.isWrapper; first | (rw [if_pos (by decide +kernel)]; kernel_rfl) | (rw [if_neg (by decide +kernel)]; exact ⟨rfl, rfl⟩))
    (fun os started H enc _ => lifted os started H enc)

theorem proved : Rows.NormPartsSaid :=
  over
#print axioms proved
end Go.Proofs.Ytdpodanhokihlaa.normParts
