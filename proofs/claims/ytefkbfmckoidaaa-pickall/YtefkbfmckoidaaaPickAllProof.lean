/- Of any row (longer ones than 300 are passed over) Top of all is each place once, each behind the one that stands ahead of it, and the rank of each is its number; the row is as it was; no condition. -/
import Derived.Test.YtefkbfmckoidaaaRows
import Derived.Test.YtefkbfmckoidaaaView
import Derived.Test.YtefkbfmckoidaaaOwn
import Derived.Test.YtefkbfmckoidaaaOrder
import Derived.Test.YtefkbfmckoidaaaRank
import Derived.Test.YtefkbfmckoidaaaTop
import Derived.Test.YtefkbfmckoidaaaLooks
import Derived.WalkKit
import Derived.ProofKit
import Derived.OpenShut
import Derived.ChangeOld
import Derived.Below
import Derived.Deep.QuietTactic
import Derived.BigQuiet
import Derived.WalkLawsBesides
namespace Go.Proofs.Ytefkbfmckoidaaa.pickAll
open Go.ChangeShapes Go.WideShapes Go.ChangeAt Go.RowKit
set_option linter.unusedVariables false
set_option linter.unusedSimpArgs false

theorem own : ownKnob Try.prog.godebug = none := by kernel_rfl
theorem laidOut : laidOutB Try.prog = true := by kernel_rfl

theorem top_all (xs : List Int) (n : Nat) (h : xs.length = n) : topZ xs n = allZ xs := by
  rw [topZ_all, Int.toNat_natCast, List.take_of_length_le (by rw [allZ_length, h]; exact Nat.le_refl _)]


set_option maxHeartbeats 2000000 in
set_option maxRecDepth 20000 in
theorem walk (a0 : Option Addr) (n0 c0 : Nat) (z0 : List Int) (w : World) (w0 : Reads .i64 w a0 n0 z0) (e0 : a0 = none → c0 = 0) (l0 : n0 ≤ c0) :
    Calls Try.prog 4 #[.slice a0 n0 c0] w fun e w' => e = .returned (.bool true) ∧ Below w.heap.size w w' := by
  have hm := w0.max
  have hl := w0.len
  by_cases h : 300 < n0
  · have h' : (300 : Int) < (n0 : Int) := by omega
    go_enter Try.func4, Try.ntmps4
    go_wp2_with (go_at_call 15; refine (works_call _).mono ?_; rintro e W1 ⟨rfl, hb1⟩)
    go_ret
    exact ⟨rfl, hb1⟩
  have hn : (n0 : Int) ≤ 300 := by omega
  have k10 := fun W (r : Reads .i64 W a0 n0 z0) => top_call a0 n0 c0 z0 n0 W r (by omega)
  rw [top_all z0 n0 hl, Int.toNat_natCast, Nat.min_self] at k10
  have hord := places_ordered z0
  rw [hl] at hord
  clear h
  go_enter Try.func4, Try.ntmps4
  go_wp2_with (first
    | (go_at_call 15; refine (works_call _).mono ?_; rintro e W1 ⟨rfl, hb1⟩)
    | (go_at_call 10; refine (k10 _ (w0.below hb1)).mono ?_; rintro e W2 ⟨⟨p2, q2, rfl, r2, -⟩, hb2⟩; replace hb2 := below_then hb1 hb2; clear hb1))
  go_loopw [4] (fun i wr => ∃ k : Nat, k ≤ n0 ∧ i = .int .i64 k ∧ Below W2.heap.size W2 wr) (fun i _ => n0 - (intOf i).toNat)
  case atStart => exact ⟨0, Nat.zero_le _, rfl, Below.refl _ _⟩
  case round =>
    obtain ⟨k, hk, rfl, hbr⟩ := hrel
    by_cases hlt : k < n0
    · have rx := w0.below (below_then hb2 hbr)
      have ry := r2.below hbr
      obtain ⟨x, rfl⟩ := w0.some_ (by omega)
      obtain ⟨y, rfl⟩ := r2.some_ (by omega)
      have hs := hord.lt hlt
      have er := hord.rank hlt
      have cy := ry.cell y rfl k hlt
      rw [allZ_at z0 k (by omega)] at cy
      by_cases h0 : k = 0
      · obtain ⟨s, es⟩ : ∃ s, (places z0).getD k 0 = s := ⟨_, rfl⟩
        rw [es] at hs er cy
        have kr := rank_ok (some x) n0 c0 z0 s wr rx hs
        rw [er] at kr
        clear er es rx ry r2 hord k10
        have t1 : (s : Int) < (n0 : Int) := by omega
        have t6 : ¬(0 : Int) < (k : Int) := by omega
        have t7 : decide ((0 : Int) < (k : Int)) = false := by simp; omega
        have t8 : decide (0 < k) = false := by simp; omega
        clear h0
        go_wp2_with (first
          | (go_at_call 12; refine kr.mono ?_; rintro e W3 ⟨rfl, hb3⟩; replace hbr := below_then hbr hb3; clear hb3))
        go_quiet (fail)
        go_wp2
        go_roundw
        case rel => exact ⟨k + 1, by omega, by go_num, below_drew hbr ⟨_, rfl⟩⟩
        case measure => simp [intOf]; omega
      · obtain ⟨k', ek⟩ : ∃ k', k = k' + 1 := ⟨k - 1, by omega⟩
        have hs' := hord.lt (show k' < n0 by omega)
        have ha := hord.step (show k' < k by omega) hlt
        have cy' := ry.cell y rfl k' (by omega)
        rw [allZ_at z0 k' (by omega)] at cy'
        obtain ⟨s, es⟩ : ∃ s, (places z0).getD k 0 = s := ⟨_, rfl⟩
        obtain ⟨t, et⟩ : ∃ t, (places z0).getD k' 0 = t := ⟨_, rfl⟩
        rw [es] at hs er cy ha
        rw [et] at hs' cy' ha
        have kr := rank_ok (some x) n0 c0 z0 s wr rx hs
        rw [er] at kr
        have cx := rx.cell x rfl s hs
        have cx' := rx.cell x rfl t hs'
        rw [ahead_iff] at ha
        obtain ⟨X, eX⟩ : ∃ X, z0.getD s 0 = X := ⟨_, rfl⟩
        obtain ⟨Y, eY⟩ : ∃ Y, z0.getD t 0 = Y := ⟨_, rfl⟩
        rw [eX] at cx ha
        rw [eY] at cx' ha
        have t1 : (s : Int) < (n0 : Int) := by omega
        have t2 : (t : Int) < (n0 : Int) := by omega
        have t3 : (k : Int) - 1 = (k' : Int) := by omega
        have t4 : (k' : Int) < (n0 : Int) := by omega
        have t5 : IntKind.i64.wrap (k' : Int) = k' := by rw [IntKind.wrap_i64]; omega
        have t6 : (0 : Int) < (k : Int) := by omega
        have t7 : decide ((0 : Int) < (k : Int)) = true := by simp; omega
        have t8 : decide (0 < k) = true := by simp; omega
        clear eX eY er es et rx ry r2 hord k10 ek
        rcases ha with ha | ⟨ha, hst⟩
        · have g1 : decide (Y < X) = false := by simp; omega
          have g2 : decide (X = Y) = false := by simp; omega
          have g3 : (X == Y) = false := by simp; omega
          go_wp2_with (first
            | (go_at_call 12; refine kr.mono ?_; rintro e W3 ⟨rfl, hb3⟩; replace hbr := below_then hbr hb3; replace cx := below_cell hb3 cx; replace cx' := below_cell hb3 cx'; replace cy' := below_cell hb3 cy'; clear hb3))
          go_quiet (fail)
          go_wp2
          go_roundw
          case rel => exact ⟨k + 1, by omega, by go_num, below_drew hbr ⟨_, rfl⟩⟩
          case measure => simp [intOf]; omega
        · subst ha
          have g1 : decide (Y < Y) = false := by simp
          have g2 : decide ((s : Int) < (t : Int)) = false := by simp; omega
          have g3 : ¬(s : Int) < (t : Int) := by omega
          go_wp2_with (first
            | (go_at_call 12; refine kr.mono ?_; rintro e W3 ⟨rfl, hb3⟩; replace hbr := below_then hbr hb3; replace cx := below_cell hb3 cx; replace cx' := below_cell hb3 cx'; replace cy' := below_cell hb3 cy'; clear hb3))
          go_quiet (fail)
          go_wp2
          go_roundw
          case rel => exact ⟨k + 1, by omega, by go_num, below_drew hbr ⟨_, rfl⟩⟩
          case measure => simp [intOf]; omega
    · have e : k = n0 := by omega
      subst e
      go_wp2
      go_ret
      exact ⟨rfl, below_then hb2 hbr⟩

theorem contract (H : Type) (enc : TypeId × Value → H) (W : World) (base : Nat) (args : Array Value) (ds gs : List (DataW H)) (before : List MemPlace)
    (hval0 : ∀ (j : Nat) t v, Try.f4.params[j]? = some t → args[j]? = some v → Value.okWide Try.prog W .any base t v)
    (hW : DataW.Whole enc Try.prog Try.f4.params.toList Rows.pickAllSpec.vars false W args.toList ds gs before) :
    Calls Try.prog 4 args W fun e W' => ∃ v, e = .returned v ∧ Rows.pickAllSpec.post enc Try.prog Try.f4 false true false false W args v W' := by
  have hval : ∀ (j : Nat) t v, Try.f4.params[j]? = some t → args[j]? = some v → Value.okWide Try.prog W .any base t v := hval0
  have hW' := hW
  obtain ⟨p, q, hA0, hV, rfl, hfz, hnd⟩ := hW
  have hA : DataW.TrodAll enc Try.prog W 0 (fun _ => true) true Try.f4.params.toList args.toList ds p := hA0
  rw [Try.params4] at hA hval
  obtain ⟨v0, vs0, d0, ds0, p0, q0, hargs, rfl, rfl, h0, r0⟩ := trodAll_cons hA
  obtain ⟨rfl, rfl, rfl⟩ := trodAll_nil r0
  obtain rfl : args = #[v0] := by cases args; simp_all
  obtain ⟨rfl, rfl⟩ := trodVars_none hV
  obtain ⟨a0, n0, c0, rfl⟩ := okWide_slice Try.underlying22 (hval 0 22 v0 rfl rfl)
  have k0 := h0
  have lt0 : ∀ x ∈ p0, x.block < W.heap.size := by obtain ⟨m, hm⟩ := k0; exact DataW.trod_lt m _ _ _ hm
  obtain ⟨z0, w0, e0, l0, s0⟩ : ∃ zs, Reads .i64 W a0 n0 zs ∧ (a0 = none → c0 = 0) ∧ n0 ≤ c0 ∧ (n0 = 0 ∨ ∃ el sp, d0 = .slice el sp ∧ n0 ≤ el.length + sp.length) := by
    obtain ⟨fuel, hf⟩ := h0
    rcases open_ints Try.underlying22 Try.underlying2 (by kernel_rfl) hf with ⟨hcs, hd⟩ | ⟨x, l, c, zs, hcs, _, hl, hm, hz, hd, hcell, hwz⟩
    · simp [Value.cells] at hcs
      obtain ⟨rfl, rfl, rfl⟩ := hcs
      exact ⟨[], Reads.nil _ _, fun _ => rfl, Nat.le_refl _, .inl rfl⟩
    · simp [Value.cells] at hcs
      obtain ⟨rfl, rfl, rfl⟩ := hcs
      exact ⟨_, Reads.of_open hl hm (by simpa using hz) hcell hwz, (fun h => by cases h), hl, .inr ⟨_, _, congrArg Prod.fst hd, open_length (by simpa using hz) hl⟩⟩
  clear hA0 hval0
  refine (walk a0 n0 c0 z0 W w0 e0 l0).mono fun e W' ⟨he, bel⟩ => ?_
  subst he
  exact ⟨_, rfl, _, _, _, [], _, [], hW', trodAll_mk1 (shut_bool Try.underlying4 _), (trodAll_cons_mk (Below.trod laidOut (by kernel_rfl) (of_decide_eq_true (by kernel_rfl)) k0 bel lt0) trodAll_mk0), rfl, bel.frame _, fun h => by cases h⟩

set_option maxRecDepth 100000 in
theorem lifted (os : Os) (started : os.Started) (H : Type) (enc : TypeId × Value → H) :
    ReturnsInHanded {} Try.checked os 4 .any (Rows.pickAllSpec.pre6 enc Try.prog Try.f4 Rows.pickAllRow.domain false) (Rows.pickAllSpec.post enc Try.prog Try.f4 false true false false) := by
  refine returnsInHanded_of_change (C := Try.checked) own started (by kernel_rfl) Try.func4
    (ChangeSpec.witness6 (enc := enc) (C := Try.checked) false ⟨#[], #[.slice none 0 0], []⟩ 8 (by kernel_rfl) (by kernel_rfl) (by kernel_rfl) (by kernel_rfl)) ?_
  intro W base args ds gs before hval hW _ _
  exact contract H enc W base args ds gs before hval hW

theorem over : Rows.pickAllRow.holds Try.pinned (OpenSpec.ofChange Rows.pickAllSpec) :=
  OpenClaim.holds_of_wide 4 Try.f4 rfl rfl rfl rfl rfl rfl rfl ⟨rfl, rfl, rfl, rfl, rfl⟩ rfl rfl rfl rfl rfl (by kernel_rfl) Try.func4 (by kernel_rfl)
    (of_decide_eq_true (by kernel_rfl)) (by unfold Func.isWrapper; first | (rw [if_pos (by decide +kernel)]; kernel_rfl) | (rw [if_neg (by decide +kernel)]; exact ⟨rfl, rfl⟩))
    (fun os started H enc _ => lifted os started H enc)

theorem proved : Rows.PickAllSaid :=
  over
#print axioms proved
end Go.Proofs.Ytefkbfmckoidaaa.pickAll
