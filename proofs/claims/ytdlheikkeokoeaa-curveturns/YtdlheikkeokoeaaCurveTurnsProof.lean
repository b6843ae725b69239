/- For every int the Go function CurveTurns returns true (half a turn more turns the signs of Cos and Sin; both squares together are one, but for rounding) and leaves its argument as it was; no condition. -/
import Derived.Test.YtdlheikkeokoeaaRows
import Derived.Test.YtdlheikkeokoeaaSat
import Derived.Test.YtdlheikkeokoeaaTabs
import Derived.Test.YtdlheikkeokoeaaArith
import Derived.Test.YtdlheikkeokoeaaExp
import Derived.Test.YtdlheikkeokoeaaRoot
import Derived.Test.YtdlheikkeokoeaaOrder
import Derived.Test.YtdlheikkeokoeaaWorks
import Derived.WalkKit
import Derived.ProofKit
import Derived.OpenShut
import Derived.WalkLawsBesides
namespace Go.Proofs.Ytdlheikkeokoeaa.curveTurns
open Go.ChangeShapes Go.WideShapes Go.ChangeAt Go.RowKit
set_option linter.unusedVariables false
set_option linter.unusedSimpArgs false

theorem own : ownKnob Try.prog.godebug = none := by kernel_rfl

theorem place_add (n k : Int) : placeZ (n + k) = (placeZ n + k) % 16 := by unfold placeZ; omega
theorem place_neg (n : Int) : placeZ (-n) = (-placeZ n) % 16 := by unfold placeZ; omega

theorem turns16 : ∀ p : Fin 16,
    tabC.getD (((p.val : Int) + 8) % 16).toNat 0 = -tabC.getD p.val 0 ∧ tabS.getD (((p.val : Int) + 8) % 16).toNat 0 = -tabS.getD p.val 0 ∧
    tabC.getD ((-(p.val : Int)) % 16).toNat 0 = tabC.getD p.val 0 ∧ tabS.getD ((-(p.val : Int)) % 16).toNat 0 = -tabS.getD p.val 0 ∧
    tabS.getD (((p.val : Int) + 4) % 16).toNat 0 = tabC.getD p.val 0 ∧
    -65536 ≤ tabC.getD p.val 0 ∧ tabC.getD p.val 0 ≤ 65536 ∧ -65536 ≤ tabS.getD p.val 0 ∧ tabS.getD p.val 0 ≤ 65536 ∧
    0 ≤ tabC.getD p.val 0 * tabC.getD p.val 0 ∧ 0 ≤ tabS.getD p.val 0 * tabS.getD p.val 0 ∧
    tabC.getD p.val 0 * tabC.getD p.val 0 + tabS.getD p.val 0 * tabS.getD p.val 0 < 4294967296 + 262144 ∧
    4294967296 - 262144 < tabC.getD p.val 0 * tabC.getD p.val 0 + tabS.getD p.val 0 * tabS.getD p.val 0 := by decide +kernel

theorem turns_of (n : Int) : cosZ (n + 8) = -cosZ n ∧ sinZ (n + 8) = -sinZ n ∧ cosZ (-n) = cosZ n ∧ sinZ (-n) = -sinZ n ∧ sinZ (n + 4) = cosZ n ∧
    -65536 ≤ cosZ n ∧ cosZ n ≤ 65536 ∧ -65536 ≤ sinZ n ∧ sinZ n ≤ 65536 ∧
    0 ≤ cosZ n * cosZ n ∧ 0 ≤ sinZ n * sinZ n ∧
    cosZ n * cosZ n + sinZ n * sinZ n < 4294967296 + 262144 ∧ 4294967296 - 262144 < cosZ n * cosZ n + sinZ n * sinZ n := by
  have b : 0 ≤ placeZ n ∧ placeZ n < 16 := by unfold placeZ; omega
  have h := turns16 ⟨(placeZ n).toNat, by omega⟩
  have e : (((placeZ n).toNat : Nat) : Int) = placeZ n := by omega
  unfold cosZ sinZ
  rw [place_add, place_add, place_neg]
  simp only [e] at h
  exact h

theorem rest_small (n : Int) : -1000000 < n.tmod 1000000 ∧ n.tmod 1000000 < 1000000 := by
  rw [Int.tmod_eq_emod]
  split <;> omega


theorem walk (a0 : Int) (w0 : (Lit.int .i64 a0).wf = true) (w : World) :
    Calls Try.prog 8 #[.int .i64 a0] w fun e w' => e = .returned (.bool true) ∧ Grown w w' := by
  have hg : Grown w w := Grown.refl w
  obtain ⟨r0, r1⟩ := rest_small a0
  obtain ⟨m, em⟩ : ∃ m, a0.tmod 1000000 = m := ⟨_, rfl⟩
  rw [em] at r0 r1
  obtain ⟨t1, t2, t3, t4, t5, t6, t7, t8, t9, t10, t11, t12, t13⟩ := turns_of m
  obtain ⟨C, eC⟩ : ∃ C, cosZ m = C := ⟨_, rfl⟩
  obtain ⟨D, eD⟩ : ∃ D, sinZ m = D := ⟨_, rfl⟩
  rw [eC] at t1 t3 t5 t6 t7 t10 t12 t13
  rw [eD] at t2 t4 t8 t9 t11 t12 t13
  go_enter Try.func8, Try.ntmps8
  go_wp2_with (first | (go_at_call 21; refine (works_call _).mono ?_; rintro e w' ⟨rfl, hg'⟩; replace hg := grown_trans hg hg'; clear hg') | (go_at_call 17; refine (cos_call _ _).mono ?_; rintro e w' ⟨rfl, hg'⟩; replace hg := grown_trans hg hg'; clear hg') | (go_at_call 19; refine (sin_call _ _).mono ?_; rintro e w' ⟨rfl, hg'⟩; replace hg := grown_trans hg hg'; clear hg'))
  all_goals go_ret
  all_goals first | exact ⟨rfl, hg⟩ | (refine ⟨congrArg (fun b => Ending.returned (.bool b)) (decide_eq_true ?_), hg⟩; omega)

set_option maxRecDepth 100000 in
theorem lifted (os : Os) (started : os.Started) (H : Type) (enc : TypeId × Value → H) :
    ReturnsInHanded {} Try.checked os 8 .any (Rows.curveTurnsSpec.pre6 enc Try.prog Try.f8 Rows.curveTurnsRow.domain false) (Rows.curveTurnsSpec.post enc Try.prog Try.f8 false true false false) := by
  refine returnsInHanded_of_change (C := Try.checked) own started (by kernel_rfl) Try.func8
    (ChangeSpec.witness6 (enc := enc) (C := Try.checked) false ⟨#[], #[.int .i64 0], []⟩ 8 (by kernel_rfl) (by kernel_rfl) (by kernel_rfl) (by kernel_rfl)) ?_
  intro W base args ds gs before hval0 hW hcnd _
  have hval : ∀ (j : Nat) t v, Try.f8.params[j]? = some t → args[j]? = some v → Value.okWide Try.prog W .any base t v := hval0
  have hW' := hW
  obtain ⟨p, q, hA0, hV, rfl, hfz, hnd⟩ := hW
  have hA : DataW.TrodAll enc Try.prog W 0 (fun _ => true) true Try.f8.params.toList args.toList ds p := hA0
  rw [Try.params8] at hA hval
  obtain ⟨v0, vs0, d0, ds0, p0, q0, hargs, rfl, rfl, h0, r0⟩ := trodAll_cons hA
  obtain ⟨rfl, rfl, rfl⟩ := trodAll_nil r0
  obtain rfl : args = #[v0] := by cases args; simp_all
  obtain ⟨rfl, rfl⟩ := trodVars_none hV
  obtain ⟨a0, rfl, rfl, rfl, w0⟩ := open_int Try.underlying3 (hval 0 3 v0 rfl rfl) h0
  clear hA0 hval0
  simp only [List.append_nil] at hW'
  refine (walk a0 w0 W).mono fun e W' ⟨he, hg⟩ => ?_
  subst he
  exact ⟨_, rfl, post_of_same (pa := []) (pv := []) hW' (fun _ _ _ => (trodAll_cons_mk (shut_bool Try.underlying4 _) trodAll_mk0)) (fun sp _ => (trodAll_cons_mk (shut_int Try.underlying3 w0) trodAll_mk0)) (fun _ _ => rfl) rfl
    (hg.frame _) hg.2.1 (ok_one (by kernel_rfl) rfl (okWide_bool_mk Try.underlying4 _))⟩

theorem over : Rows.curveTurnsRow.holds Try.pinned (OpenSpec.ofChange Rows.curveTurnsSpec) :=
  OpenClaim.holds_of_wide 8 Try.f8 rfl rfl rfl rfl rfl rfl rfl ⟨rfl, rfl, rfl, rfl, rfl⟩ rfl rfl rfl rfl rfl (by kernel_rfl) Try.func8 (by kernel_rfl)
    (of_decide_eq_true (by kernel_rfl)) (by unfold Func.isWrapper; first | (rw [if_pos (by decide +kernel)]; kernel_rfl) | (rw [if_neg (by decide +kernel)]; exact ⟨rfl, rfl⟩))
    (fun os started H enc _ => lifted os started H enc)

theorem proved : Rows.CurveTurnsSaid :=
  over
#print axioms proved
end Go.Proofs.Ytdlheikkeokoeaa.curveTurns
