/- The examples come out as they should, and for every row of an even number of at most 1000 members, any place below 16 and any sixteen places more below 60 times: both turnings give the same row without an error, and turned by nought each member is clamped alone. -/
import Derived.Test.YtjbjclphomeafaaRows
import Derived.Test.YtjbjclphomeafaaSat
import Derived.Test.YtjbjclphomeafaaSatRef
import Derived.Test.YtjbjclphomeafaaView
import Derived.Test.YtjbjclphomeafaaOwn
import Derived.Test.YtjbjclphomeafaaSame
import Derived.Test.YtjbjclphomeafaaWorks
import Derived.Test.YtjbjclphomeafaaTabs
import Derived.Test.YtjbjclphomeafaaPair
import Derived.Test.YtjbjclphomeafaaTurn
import Derived.Test.YtjbjclphomeafaaTurns
import Derived.Test.YtjbjclphomeafaaHeads
import Derived.Test.YtjbjclphomeafaaLooks
import Derived.WalkKit
import Derived.ProofKit
import Derived.OpenShut
import Derived.ChangeOld
import Derived.Below
import Derived.WalkLawsBesides
namespace Go.Proofs.Ytjbjclphomeafaa.turnRound
open Go.ChangeShapes Go.WideShapes Go.ChangeAt Go.RowKit
set_option linter.unusedVariables false
set_option linter.unusedSimpArgs false

theorem own : ownKnob Try.prog.godebug = none := by kernel_rfl
theorem laidOut : laidOutB Try.prog = true := by kernel_rfl

theorem rest_of (x k : Int) (hk : 0 < k) : ∃ M : Int, 0 ≤ M ∧ M < k ∧ (IntKind.u64.wrap x).tmod k = M ∧ IntKind.u64.wrap x % k = M := by
  have b : 0 ≤ IntKind.u64.wrap x := by rw [IntKind.wrap_u64]; omega
  generalize IntKind.u64.wrap x = U at *
  exact ⟨U % k, Int.emod_nonneg _ (by omega), Int.emod_lt_of_pos _ hk, by rw [Int.tmod_eq_emod_of_nonneg b], rfl⟩


set_option maxHeartbeats 1000000 in
theorem walk (a0 : Option Addr) (n0 c0 : Nat) (z0 : List Int) (a1 : Int) (a2 : Int) (w : World) (w0 : Reads .i64 w a0 n0 z0) (e0 : a0 = none → c0 = 0) (l0 : n0 ≤ c0) (w1 : (Lit.int .i64 a1).wf = true) (w2 : (Lit.int .i64 a2).wf = true) :
    Calls Try.prog 5 #[.slice a0 n0 c0, .int .i64 a1, .int .i64 a2] w fun e w' => e = .returned (.bool true) ∧ Below w.heap.size w w' := by
  have hm := w0.max
  by_cases h1 : n0 % 2 = 1
  · have ev : ((n0 : Int) % 2 == 0) = false := by simp; omega
    go_enter Try.func5, Try.ntmps5
    go_wp2_with (go_at_call 13; refine (works_call _).mono ?_; rintro e W1 ⟨rfl, hb1⟩)
    go_ret
    exact ⟨rfl, hb1⟩
  have ev : (n0 : Int) % 2 = 0 := by omega
  by_cases h2 : 1000 < n0
  · have h3 : (1000 : Int) < (n0 : Int) := by omega
    go_enter Try.func5, Try.ntmps5
    go_wp2_with (go_at_call 13; refine (works_call _).mono ?_; rintro e W1 ⟨rfl, hb1⟩)
    go_ret
    exact ⟨rfl, hb1⟩
  have hn : n0 ≤ 1000 := by omega
  have hn' : (n0 : Int) ≤ 1000 := by omega
  obtain ⟨P, P0, P1, eP, eP'⟩ := rest_of a1 16 (by decide)
  obtain ⟨U, U0, U1, eU, eU'⟩ := rest_of a2 60 (by decide)
  obtain ⟨S, eS⟩ : ∃ S, P + 16 * U = S := ⟨_, rfl⟩
  have S0 : 0 ≤ S ∧ S ≤ 1000 := by omega
  have eL : turnZ z0 S n0 = turnZ z0 P n0 := by rw [← eS]; exact turnZ_round _ _ _ _
  have kA := fun W (h : Reads .i64 W a0 n0 z0) => turn_fine a0 n0 c0 z0 P W h (by omega) (by omega) (by omega)
  have kB := fun W (h : Reads .i64 W a0 n0 z0) => turn_fine a0 n0 c0 z0 S W h (by omega) (by omega) (by omega)
  have kZ := fun W (h : Reads .i64 W a0 n0 z0) => turn_fine a0 n0 c0 z0 0 W h (by omega) (by omega) (by omega)
  rw [eL] at kB
  obtain ⟨L, eL'⟩ : ∃ L, turnZ z0 P n0 = L := ⟨_, rfl⟩
  rw [eL'] at kA kB
  clear eL eL' h1 h2
  go_enter Try.func5, Try.ntmps5
  go_wp2_with (first
    | (go_at_call 13; refine (works_call _).mono ?_; rintro e W1 ⟨rfl, hb1⟩)
    | (go_at_call_of 8 P; refine (kA _ (w0.below hb1)).mono ?_; rintro e W2 ⟨⟨p2, q2, rfl, r2, -⟩, hb2⟩; replace hb2 := below_then hb1 hb2; clear hb1)
    | (go_at_call_of 8 S; refine (kB _ (w0.below hb2)).mono ?_; rintro e W3 ⟨⟨p3, q3, rfl, r3, -⟩, hb3⟩; replace r2 := r2.below hb3; replace hb3 := below_then hb2 hb3; clear hb2)
    | (go_at_call 8; refine (kZ _ (w0.below hb3)).mono ?_; rintro e W4 ⟨⟨p4, q4, rfl, r4, -⟩, hb4⟩; replace r2 := r2.below hb4; replace r3 := r3.below hb4; replace hb4 := below_then hb3 hb4; clear hb3)
    | (go_at_call 10; refine (same_call _ _ _ L _ _ _ _ r2 r3).mono ?_; rintro e W5 ⟨rfl, hq⟩; replace r4 := r4.below (below_drew (Below.refl _ _) hq); replace hb4 := below_drew hb4 hq; clear hq r2 r3))
  go_loopw [13] (fun i wr => ∃ k : Nat, k ≤ n0 ∧ i = .int .i64 k ∧ ∃ m, wr = W5.drewN m) (fun i _ => n0 - (intOf i).toNat)
  case atStart => exact ⟨0, Nat.zero_le _, rfl, 0, rfl⟩
  case round =>
    obtain ⟨k, hk, rfl, m, hw⟩ := hrel
    by_cases hlt : k < n0
    · have r5 := w0.below hb4
      obtain ⟨x, rfl⟩ := w0.some_ (by omega)
      obtain ⟨y, rfl⟩ := r4.some_ (by omega)
      have cx : wr.cell? (x.add k) = some (.int .i64 (z0.getD k 0)) := by rw [hw]; exact r5.cell x rfl k hlt
      have cy : wr.cell? (y.add k) = some (.int .i64 (clampZ (z0.getD k 0))) := by
        have h := r4.cell y rfl k hlt
        have e : (turnZ z0 0 n0).getD k 0 = clampZ (z0.getD k 0) := by rw [← turnF_nought]; unfold turnZ; simp [List.getD, hlt]
        rw [e] at h
        rw [hw]; exact h
      have Hw : Hid (wr = W5.drewN m) := hw
      have kc := fun W => refClamp_call (z0.getD k 0) W
      obtain ⟨Z, eZ⟩ : ∃ Z, z0.getD k 0 = Z := ⟨_, rfl⟩
      rw [eZ] at cx cy kc
      obtain ⟨C, eC⟩ : ∃ C, clampZ Z = C := ⟨_, rfl⟩
      rw [eC] at cy kc
      clear hw eZ eC w0 r4 r5 kA kB kZ
      go_wp2
      go_quiet (first | (go_at_call 14; refine Calls.quiet_of_same (kc _)))
      go_wp2
      go_roundw
      case rel => exact ⟨k + 1, by omega, by go_num, _, by rw [Hw.out, World.drewN_drewN]⟩
      case measure => simp [intOf]; omega
    · have e : k = n0 := by omega
      subst e
      subst hw
      go_wp2
      go_ret
      exact ⟨rfl, below_drew hb4 ⟨_, rfl⟩⟩

theorem contract (H : Type) (enc : TypeId × Value → H) (W : World) (base : Nat) (args : Array Value) (ds gs : List (DataW H)) (before : List MemPlace)
    (hval0 : ∀ (j : Nat) t v, Try.f5.params[j]? = some t → args[j]? = some v → Value.okWide Try.prog W .any base t v)
    (hW : DataW.Whole enc Try.prog Try.f5.params.toList Rows.turnRoundSpec.vars false W args.toList ds gs before) :
    Calls Try.prog 5 args W fun e W' => ∃ v, e = .returned v ∧ Rows.turnRoundSpec.post enc Try.prog Try.f5 false true false false W args v W' := by
  have hval : ∀ (j : Nat) t v, Try.f5.params[j]? = some t → args[j]? = some v → Value.okWide Try.prog W .any base t v := hval0
  have hW' := hW
  obtain ⟨p, q, hA0, hV, rfl, hfz, hnd⟩ := hW
  have hA : DataW.TrodAll enc Try.prog W 0 (fun _ => true) true Try.f5.params.toList args.toList ds p := hA0
  rw [Try.params5] at hA hval
  obtain ⟨v0, vs0, d0, ds0, p0, q0, hargs, rfl, rfl, h0, r0⟩ := trodAll_cons hA
  obtain ⟨v1, vs1, d1, ds1, p1, q1, rfl, rfl, rfl, h1, r1⟩ := trodAll_cons r0
  obtain ⟨v2, vs2, d2, ds2, p2, q2, rfl, rfl, rfl, h2, r2⟩ := trodAll_cons r1
  obtain ⟨rfl, rfl, rfl⟩ := trodAll_nil r2
  obtain rfl : args = #[v0, v1, v2] := by cases args; simp_all
  obtain ⟨rfl, rfl⟩ := trodVars_none hV
  obtain ⟨a0, n0, c0, rfl⟩ := okWide_slice Try.underlying22 (hval 0 22 v0 rfl rfl)
  have k0 := h0
  have lt0 : ∀ x ∈ p0, x.block < W.heap.size := by obtain ⟨m, hm⟩ := k0; exact DataW.trod_lt m _ _ _ hm
  obtain ⟨z0, w0, e0, l0, s0⟩ : ∃ zs, Reads .i64 W a0 n0 zs ∧ (a0 = none → c0 = 0) ∧ n0 ≤ c0 ∧ (n0 = 0 ∨ ∃ el sp, d0 = .slice el sp ∧ n0 ≤ el.length + sp.length) := by
    obtain ⟨fuel, hf⟩ := h0
    rcases open_ints Try.underlying22 Try.underlying2 (by kernel_rfl) hf with ⟨hcs, hd⟩ | ⟨x, l, c, zs, hcs, _, hl, hm, hz, hd, hcell, hwz⟩
    · simp [Value.cells] at hcs
      obtain ⟨rfl, rfl, rfl⟩ := hcs
      exact ⟨[], Reads.nil _ _, fun _ => rfl, Nat.le_refl _, .inl rfl⟩
    · simp [Value.cells] at hcs
      obtain ⟨rfl, rfl, rfl⟩ := hcs
      exact ⟨_, Reads.of_open hl hm (by simpa using hz) hcell hwz, (fun h => by cases h), hl, .inr ⟨_, _, congrArg Prod.fst hd, open_length (by simpa using hz) hl⟩⟩
  obtain ⟨a1, rfl, rfl, rfl, w1⟩ := open_int Try.underlying3 (hval 1 3 v1 rfl rfl) h1
  obtain ⟨a2, rfl, rfl, rfl, w2⟩ := open_int Try.underlying3 (hval 2 3 v2 rfl rfl) h2
  clear hA0 hval0
  refine (walk a0 n0 c0 z0 a1 a2 W w0 e0 l0 w1 w2).mono fun e W' ⟨he, bel⟩ => ?_
  subst he
  exact ⟨_, rfl, _, _, _, [], _, [], hW', trodAll_mk1 (shut_bool Try.underlying4 _), (trodAll_cons_mk (Below.trod laidOut (by kernel_rfl) (of_decide_eq_true (by kernel_rfl)) k0 bel lt0) (trodAll_cons_mk (shut_int Try.underlying3 w1) (trodAll_cons_mk (shut_int Try.underlying3 w2) trodAll_mk0))), rfl, bel.frame _, fun h => by cases h⟩

set_option maxRecDepth 100000 in
theorem lifted (os : Os) (started : os.Started) (H : Type) (enc : TypeId × Value → H) :
    ReturnsInHanded {} Try.checked os 5 .any (Rows.turnRoundSpec.pre6 enc Try.prog Try.f5 Rows.turnRoundRow.domain false) (Rows.turnRoundSpec.post enc Try.prog Try.f5 false true false false) := by
  refine returnsInHanded_of_change (C := Try.checked) own started (by kernel_rfl) Try.func5
    (ChangeSpec.witness6 (enc := enc) (C := Try.checked) false ⟨#[], #[.slice none 0 0, .int .i64 0, .int .i64 0], []⟩ 8 (by kernel_rfl) (by kernel_rfl) (by kernel_rfl) (by kernel_rfl)) ?_
  intro W base args ds gs before hval hW _ _
  exact contract H enc W base args ds gs before hval hW

theorem over : Rows.turnRoundRow.holds Try.pinned (OpenSpec.ofChange Rows.turnRoundSpec) :=
  OpenClaim.holds_of_wide 5 Try.f5 rfl rfl rfl rfl rfl rfl rfl ⟨rfl, rfl, rfl, rfl, rfl⟩ rfl rfl rfl rfl rfl (by kernel_rfl) Try.func5 (by kernel_rfl)
    (of_decide_eq_true (by kernel_rfl)) (by unfold Func.isWrapper; first | (rw [if_pos (by decide +kernel)]; kernel_rfl) | (rw [if_neg (by decide +kernel)]; exact ⟨rfl, rfl⟩))
    (fun os started H enc _ => lifted os started H enc)

theorem proved : Rows.TurnRoundSaid :=
  over
#print axioms proved
end Go.Proofs.Ytjbjclphomeafaa.turnRound
