/- The rows' members of one place, each by its share, together: the contract of the call. -/
import Derived.Test.YtlpmndlefbghoaaRows
import Derived.Test.YtlpmndlefbghoaaView
import Derived.Test.YtlpmndlefbghoaaOwn
import Derived.Test.YtlpmndlefbghoaaSat
import Derived.Test.YtlpmndlefbghoaaAdds
import Derived.Test.YtlpmndlefbghoaaExp
import Derived.Test.YtlpmndlefbghoaaFitZ
import Derived.Test.YtlpmndlefbghoaaMats
import Derived.Test.YtlpmndlefbghoaaSoft
import Derived.Test.YtlpmndlefbghoaaMean
import Derived.Test.YtlpmndlefbghoaaRanks
import Derived.Test.YtlpmndlefbghoaaAskZ
import Derived.Test.YtlpmndlefbghoaaXpRouteZ
import Derived.Test.YtlpmndlefbghoaaXpMixZ
import Derived.WalkKit
import Derived.ProofKit
import Derived.OpenShut
import Derived.Below
import Derived.WalkLawsBesides
import Derived.Deep.QuietTactic
import Derived.BigQuiet
namespace Go.Proofs.Ytlpmndlefbghoaa
open Go.ChangeShapes Go.WideShapes Go.ChangeAt Go.RowKit
set_option linter.unusedVariables false
set_option linter.unusedSimpArgs false

theorem blend_call (a0 : Option Addr) (K c0 : Nat) (zs : List Int) (a1 : Option Addr) (c1 : Nat) (A : Nat → Option Addr) (C : Nat → Nat) (R : Nat → List Int) (i : Nat) (w : World)
    (h0 : Reads .i64 w a0 K zs) (h1 : Grid w a1 K A C R) (hi : ∀ j, j < K → i < (R j).length) (zb : ∀ j, -2147483648 ≤ zs.getD j 0 ∧ zs.getD j 0 ≤ 2147483647) (rb : ∀ j, j < K → -2147483648 ≤ (R j).getD i 0 ∧ (R j).getD i 0 ≤ 2147483647) :
    Calls Try.prog 36 #[.slice a0 K c0, .slice a1 K c1, .int .i64 i] w fun e w' => e = .returned (.int .i64 (blendZ (fun j => zs.getD j 0) R K i)) ∧ w' = w := by
  have hm := h0.max
  go_enter Try.func36, Try.ntmps36
  go_wp2
  go_loopw [7, 12] (fun s j wr => ∃ k : Nat, k ≤ K ∧ j = .int .i64 k ∧ s = .int .i64 (blendTo (fun j => zs.getD j 0) R i k) ∧ wr = w) (fun _ j _ => K - (intOf j).toNat)
  case atStart => exact ⟨0, Nat.zero_le _, rfl, rfl, rfl⟩
  case round =>
    obtain ⟨k, hk, rfl, rfl, hw⟩ := hrel
    subst hw
    by_cases hlt : k < K
    · obtain ⟨x, rfl⟩ := h0.some_ (by omega)
      obtain ⟨y, rfl⟩ := h1.some_ (by omega)
      have cx := h0.cell x rfl k hlt
      have cy := h1.cell y rfl k hlt
      have hik := hi k hlt
      have rk := h1.row k hlt
      obtain ⟨z, ez⟩ := rk.some_ (by omega)
      have cz := rk.cell z ez i hik
      rw [ez] at cy
      have b1 := zb k
      have b2 := rb k hlt
      have es : blendTo (fun j => zs.getD j 0) R i (k + 1) = addZ (blendTo (fun j => zs.getD j 0) R i k) (zs.getD k 0 * (R k).getD i 0) := rfl
      have wS := wf_blendTo (fun j => zs.getD j 0) R i k
      have pb := prodM_bounds _ _ b1 b2
      obtain ⟨Z, eZ⟩ : ∃ Z, zs.getD k 0 = Z := ⟨_, rfl⟩
      obtain ⟨Y, eY⟩ : ∃ Y, (R k).getD i 0 = Y := ⟨_, rfl⟩
      obtain ⟨T, eT⟩ : ∃ T, blendTo (fun j => zs.getD j 0) R i k = T := ⟨_, rfl⟩
      obtain ⟨n, en⟩ : ∃ n, (R k).length = n := ⟨_, rfl⟩
      rw [eZ, eY] at pb
      rw [eZ] at cx es
      rw [eY] at cz es
      rw [eT] at es wS ⊢
      rw [en] at cy hik
      obtain ⟨Pz, eP⟩ : ∃ Pz, Z * Y = Pz := ⟨_, rfl⟩
      rw [eP] at pb es
      obtain ⟨p0, p1⟩ := pb
      have wP : (Lit.int .i64 Pz).wf = true := WalkArith.wf_i64 ⟨by omega, by omega⟩
      have Es : Hid (blendTo (fun j => zs.getD j 0) R i (k + 1) = addZ T Pz) := es
      clear es eZ eY eT en b1 b2 rk ez
      have ka := fun W => add_call T Pz wS wP W
      go_wp2_with (go_at_call 47; refine (ka _).mono ?_; rintro e w' ⟨rfl, hq⟩; obtain rfl := hq.symm)
      go_roundw
      case rel => exact ⟨k + 1, by omega, by go_num, by rw [Es.out], trivial⟩
      case measure => simp [intOf]; omega
    · have e : k = K := by omega
      subst e
      have wS := wf_blendTo (fun j => zs.getD j 0) R i k
      obtain ⟨T, eT⟩ : ∃ T, blendTo (fun j => zs.getD j 0) R i k = T := ⟨_, rfl⟩
      have Et : Hid (blendTo (fun j => zs.getD j 0) R i k = T) := eT
      rw [eT] at wS ⊢
      clear eT
      have ks := fun W => shift_call T 16 wS (by decide) W
      go_wp2_with (first
        | (go_at_call 49; refine (ks _).mono ?_; rintro e w' ⟨rfl, hq⟩; obtain rfl := hq.symm)
        | (go_at_call 48; refine (clamp_call _ _).mono ?_; rintro e w' ⟨rfl, hq⟩; obtain rfl := hq.symm))
      go_ret
      exact ⟨by unfold blendZ; rw [Et.out]; rfl, rfl⟩

end Go.Proofs.Ytlpmndlefbghoaa
