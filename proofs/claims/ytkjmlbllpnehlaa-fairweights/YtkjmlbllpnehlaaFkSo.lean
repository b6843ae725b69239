/- Whose turn it is. -/
import Derived.Test.YtkjmlbllpnehlaaRows
import Derived.Test.YtkjmlbllpnehlaaView
import Derived.Test.YtkjmlbllpnehlaaOwn
import Derived.Test.YtkjmlbllpnehlaaBase
import Derived.Test.YtkjmlbllpnehlaaFkZ
import Derived.Test.YtkjmlbllpnehlaaFkBy
import Derived.Test.YtkjmlbllpnehlaaFkAt
import Derived.Test.YtkjmlbllpnehlaaFkRd
import Derived.WalkKit
import Derived.ProofKit
import Derived.OpenShut
import Derived.Below
import Derived.WalkLawsBesides
import Derived.Deep.QuietTactic
import Derived.BigQuiet
import Derived.OwnWalk
namespace Go.Proofs.Ytkjmlbllpnehlaa
set_option maxRecDepth 20000
open Go.ChangeShapes Go.WideShapes Go.ChangeAt Go.RowKit
set_option linter.unusedVariables false
set_option linter.unusedSimpArgs false

def bestA (g : Nat) : Option Nat → Option Addr
  | none => none
  | some b => some ⟨g, b * 3, none⟩
theorem bestA_isNone (g : Nat) (o : Option Nat) : (bestA g o).isNone = o.isNone := by cases o <;> rfl
theorem soonest_call {B : Nat} {w : World} {f g : Nat} {A : Nat → Sl} {s : Fr} (h : FrAt B w f g A s) (hn : s.n ≤ 4) : Calls Try.prog 27 #[.pointer (some ⟨f, 0, none⟩)] w fun e w' => e = .returned (.pointer (bestA g (bestTo s s.n))) ∧ ∃ m, w' = w.drewN m := by
  have HF := hidden_ h
  have t0 := h.t0
  obtain ⟨n, eN⟩ : ∃ n, s.n = n := ⟨_, rfl⟩
  rw [eN] at t0 hn ⊢
  have HN := hidden_ eN
  obtain ⟨X, eX⟩ : ∃ X : Addr, X = ⟨g, 0, none⟩ := ⟨_, rfl⟩
  rw [← eX] at t0
  have HX := hidden_ eX
  have HT := hidden_ t0
  clear eN eX h
  go_enter Try.func27, Try.ntmps27
  go_wp2
  clear t0
  go_loopw [3, 11] (fun p i wr => ∃ k : Nat, k ≤ n ∧ i = .int .i64 k ∧ p = .pointer (bestA g (bestTo s k)) ∧ Hid (∃ m, wr = w.drewN m)) (fun _ i _ => n - (intOf i).toNat)
  case atStart => exact ⟨0, Nat.zero_le _, rfl, rfl, ⟨0, rfl⟩⟩
  case round =>
    obtain ⟨k, hk, rfl, rfl, hw⟩ := hrel
    by_cases hlt : k < n
    · have hlt' : (k : Int) < (n : Int) := by omega
      obtain ⟨m, em⟩ := hw.out
      have t0 : wr.cell? ⟨f, 0, none⟩ = some (.slice (some X) n n) := by rw [em]; exact HT.out
      have hF : FrAt B wr f g A s := by rw [em]; exact HF.out.drewN m
      have hkn : k < s.n := by rw [HN.out]; exact hlt
      have c1 := hF.c1 k hkn
      have c2 := hF.c2 k hkn
      obtain ⟨P, eP⟩ : ∃ P, X.add (k * 3) = P := ⟨_, rfl⟩
      have e' : P = ⟨g, k * 3, none⟩ := by rw [← eP, HX.out, add_zero_at]
      have c1' : wr.cell? ⟨P.block, P.off + 1, none⟩ = some (.int .i64 (s.ck k)) := by rw [e']; exact c1
      have c2' : wr.cell? ⟨P.block, P.off + 2, none⟩ = some (.slice (A k).a (rowOf s.L k).length (A k).c) := by rw [e']; exact c2
      have HP := hidden_ e'
      obtain ⟨l, el⟩ : ∃ l, (rowOf s.L k).length = l := ⟨_, rfl⟩
      rw [el] at c2'
      have HL := hidden_ el
      have step := hidden_ (show bestTo s (k + 1) = if rowOf s.L k ≠ [] ∧ (∀ b, bestTo s k = some b → s.ck k < s.ck b) then some k else bestTo s k from rfl)
      obtain ⟨O, eO⟩ : ∃ O, bestTo s k = O := ⟨_, rfl⟩
      have hO := hidden_ eO
      have step' := step.out
      rw [eO] at step'
      have step := hidden_ step'
      have cb : ∀ b, O = some b → wr.cell? ⟨g, b * 3 + 1, none⟩ = some (.int .i64 (s.ck b)) := fun b hb => hF.c1 b (by have := (best_lt (eO.trans hb)).1; omega)
      rw [eO]
      have hm := hidden_ em
      clear c1 c2 e' el step' eO em hF hkn hw
      by_cases hl : 0 < l
      · have hl' : decide (0 < l) = true := by simp [hl]
        have hlI : (0 : Int) < (l : Int) := by omega
        have hne : rowOf s.L k ≠ [] := by
          intro e
          have := HL.out
          rw [e] at this
          simp at this
          omega
        cases O with
        | none =>
          have st := step.out
          rw [if_pos ⟨hne, fun b hb => by cases hb⟩] at st
          have ST := hidden_ st
          clear st step cb hne
          dsimp only [bestA]
          go_wp2
          go_quiet (fail)
          go_wp2
          go_roundw
          case rel => exact ⟨k + 1, by omega, by go_num, by rw [ST.out, HP.out]; try rfl, ⟨_, by rw [hm.out]; exact World.drewN_drewN _ _ _⟩⟩
          case measure => simp [intOf]; omega
        | some b =>
          have c3 := cb b rfl
          obtain ⟨D, eD⟩ : ∃ D, b * 3 = D := ⟨_, rfl⟩
          rw [eD] at c3
          obtain ⟨u, eu⟩ : ∃ u, s.ck k = u := ⟨_, rfl⟩
          obtain ⟨v, ev⟩ : ∃ v, s.ck b = v := ⟨_, rfl⟩
          rw [eu] at c1'
          rw [ev] at c3
          by_cases hc : u < v
          · have st := step.out
            rw [if_pos ⟨hne, fun b' hb => by obtain rfl := Option.some.inj hb; rw [eu, ev]; exact hc⟩] at st
            have ST := hidden_ st
            have hc' : decide (u < v) = true := by simp [hc]
            have ED := hidden_ eD
            clear st step cb hne eu ev eD
            dsimp only [bestA]
            rw [ED.out]
            go_wp2
            go_quiet (fail)
            go_wp2
            go_roundw
            case rel => exact ⟨k + 1, by omega, by go_num, by rw [ST.out, HP.out]; try rfl, ⟨_, by rw [hm.out]; exact World.drewN_drewN _ _ _⟩⟩
            case measure => simp [intOf]; omega
          · have st := step.out
            rw [if_neg (fun x => by have := x.2 b rfl; rw [eu, ev] at this; exact hc this)] at st
            have ST := hidden_ st
            have hc' : decide (u < v) = false := by simp; omega
            have ED := hidden_ eD
            clear st step cb hne eu ev eD
            dsimp only [bestA]
            rw [ED.out]
            go_wp2
            go_quiet (fail)
            go_wp2
            go_roundw
            case rel => exact ⟨k + 1, by omega, by go_num, by rw [ST.out]; dsimp only [bestA]; rw [ED.out], ⟨_, by rw [hm.out]; exact World.drewN_drewN _ _ _⟩⟩
            case measure => simp [intOf]; omega
      · have hl' : decide (0 < l) = false := by simp; omega
        obtain rfl : l = 0 := by omega
        have st := step.out
        rw [if_neg (fun x => x.1 (List.eq_nil_of_length_eq_zero HL.out))] at st
        have ST := hidden_ st
        obtain ⟨Y, eY⟩ : ∃ Y, bestA g O = Y := ⟨_, rfl⟩
        rw [eY]
        have EY := hidden_ eY
        clear st step cb eY
        go_wp2
        go_quiet (fail)
        go_wp2
        go_roundw
        case rel => exact ⟨k + 1, by omega, by go_num, by rw [ST.out, EY.out], ⟨_, by rw [hm.out]; exact World.drewN_drewN _ _ _⟩⟩
        case measure => simp [intOf]; omega
    · have e : k = n := by omega
      subst e
      go_wp2
      go_ret
      exact ⟨rfl, hw.out⟩

end Go.Proofs.Ytkjmlbllpnehlaa
