/- What the document's Grow refuses: a contract of the call. -/
import Derived.Test.YteeljnibglnflaaRows
import Derived.Test.YteeljnibglnflaaView
import Derived.Test.YteeljnibglnflaaOwn
import Derived.Test.YteeljnibglnflaaBmZ
import Derived.Test.YteeljnibglnflaaBmAt
import Derived.Test.YteeljnibglnflaaGMean
import Derived.Test.YteeljnibglnflaaBmRefZ
import Derived.WalkKit
import Derived.ProofKit
import Derived.OpenShut
import Derived.WalkLawsBesides
import Derived.Below
import Derived.Deep.QuietTactic
import Derived.BigQuiet
import Derived.Laws.AppendOwnNone
namespace Go.Proofs.Yteeljnibglnflaa
set_option maxRecDepth 20000
open Go.ChangeShapes Go.WideShapes Go.ChangeAt Go.RowKit
set_option linter.unusedVariables false
set_option linter.unusedSimpArgs false

set_option maxHeartbeats 4000000 in
theorem refGrow_no (a0 : Option Addr) (n ca : Nat) (A : Nat → Option Addr) (C : Nat → Nat) (L : Nat → Bm) (a1 : Option Addr) (m cb : Nat) (A1 : Nat → Option Addr) (C1 : Nat → Nat) (R : Nat → List Int) (width len stop : Int) (w : World)
    (h0 : BmAt w a0 n A C L) (h1 : Grid w a1 m A1 C1 R) (hE : growE L n R m width ≠ 0) :
    Calls Try.prog 11 #[.slice a0 n ca, .slice a1 m cb, .int .i64 width, .int .i64 len, .int .i64 stop] w fun e w' => e = .returned (.tuple #[.slice none 0 0, .slice none 0 0, .int .i64 (growE L n R m width)]) ∧ Below w.heap.size w w' := by
  have hmx := h0.max
  have hm1 := h1.max
  have H0 : Hid (BmAt w a0 n A C L) := h0
  have H1 : Hid (Grid w a1 m A1 C1 R) := h1
  clear h0 h1
  by_cases hw1 : width < 1
  · have e : growE L n R m width = 20 := by unfold growE; rw [if_pos (.inl hw1)]
    rw [e]
    clear hE e
    go_enter Try.func11, Try.ntmps11
    go_wp2
    go_ret3
    exact ⟨rfl, Below.refl _ _⟩
  · by_cases hw2 : 4 < width
    · have e : growE L n R m width = 20 := by unfold growE; rw [if_pos (.inr hw2)]
      rw [e]
      clear hE e
      go_enter Try.func11, Try.ntmps11
      go_wp2
      go_ret3
      exact ⟨rfl, Below.refl _ _⟩
    · have ef : fitB L n R m = false := by
        cases h : fitB L n R m with
        | false => rfl
        | true => exact absurd (by unfold growE; rw [if_neg (by omega), if_pos h]) hE
      have e : growE L n R m width = 21 := by unfold growE; rw [if_neg (by omega), if_neg (by rw [ef]; decide)]
      rw [e]
      rw [fit_ok] at ef
      clear hE e
      by_cases hn0 : n = 0
      · have HOK : Hid (okTo false R m = false) := show _ = _ from rfl
        clear ef
        have hz1 : decide ((0 : Int) < (n : Int)) = false := decide_eq_false (by omega)
        have hz2 : decide (0 < n) = false := decide_eq_false (by omega)
        have hz3 : ¬ ((0 : Int) < (n : Int)) := by omega
        clear hn0
        go_enter Try.func11, Try.ntmps11
        go_wp2
        go_loopw [13, 14] (fun s i wr => ∃ k : Nat, k ≤ n ∧ i = .int .i64 k ∧ s = .int .i64 (liveTo L k : Nat) ∧ wr = w) (fun _ i _ => n - (intOf i).toNat)
        case atStart => exact ⟨0, Nat.zero_le _, rfl, rfl, rfl⟩
        case round =>
          obtain ⟨k, hk, rfl, rfl, hw0⟩ := hrel
          obtain rfl := hw0.symm
          by_cases hlt : k < n
          · exact absurd hlt (by omega)
          · obtain rfl : k = n := by omega
            go_wp2
            go_loopw [15, 16] (fun o i wr => ∃ j : Nat, j ≤ m ∧ i = .int .i64 j ∧ o = .bool (okTo false R j) ∧ wr = w) (fun _ i _ => m - (intOf i).toNat)
            case atStart => exact ⟨0, Nat.zero_le _, rfl, rfl, rfl⟩
            case round =>
              obtain ⟨j, hj, rfl, rfl, hw0⟩ := hrel
              obtain rfl := hw0.symm
              by_cases hlt : j < m
              · obtain ⟨x1, hx1⟩ := H1.out.some_ (by omega)
                subst hx1
                have g0 := H1.out.cell x1 rfl j hlt
                have HS : Hid (okTo false R (j + 1) = (okTo false R j && decide (0 < (R j).length))) := okTo_succ _ _ _
                obtain ⟨b, eb⟩ : ∃ b, okTo false R j = b := ⟨_, rfl⟩
                rw [eb] at HS ⊢
                obtain ⟨T, eT⟩ : ∃ T, (R j).length = T := ⟨_, rfl⟩
                rw [eT] at g0 HS
                clear eb eT
                cases b with
                | true =>
                  by_cases hT0 : 0 < T
                  · have hT1 : (0 : Int) < (T : Int) := by omega
                    have HS2 : Hid (okTo false R (j + 1) = true) := by show _ = _; rw [HS.out]; simp [hT0]
                    clear HS
                    go_wp2
                    go_roundw
                    case rel => exact ⟨j + 1, by omega, by go_num, by rw [HS2.out], by first | rfl | trivial⟩
                    case measure => simp [intOf]; omega
                  · have hT1 : decide ((0 : Int) < (T : Int)) = false := decide_eq_false (by omega)
                    obtain rfl : T = 0 := by omega
                    have HS2 : Hid (okTo false R (j + 1) = false) := by show _ = _; rw [HS.out]; simp
                    clear HS
                    go_wp2
                    go_roundw
                    case rel => exact ⟨j + 1, by omega, by go_num, by rw [HS2.out], by first | rfl | trivial⟩
                    case measure => simp [intOf]; omega
                | false =>
                  have HS2 : Hid (okTo false R (j + 1) = false) := by show _ = _; rw [HS.out]; rfl
                  clear HS
                  go_wp2
                  go_roundw
                  case rel => exact ⟨j + 1, by omega, by go_num, by rw [HS2.out], by first | rfl | trivial⟩
                  case measure => simp [intOf]; omega
              · obtain rfl : j = m := by omega
                rw [HOK.out]
                go_wp2
                go_ret3
                exact ⟨rfl, Below.refl _ _⟩
      · by_cases hlv : m = liveTo L n
        · have HOK : Hid (okTo true R m = false) := by
            show _ = _
            rw [show (decide (0 < n) && decide (m = liveTo L n)) = true by simp [hlv]; omega] at ef
            exact ef
          clear ef
          have n0 : (0 : Int) < (n : Int) := by omega
          have HLV : Hid (m = liveTo L n) := hlv
          clear hlv
          go_enter Try.func11, Try.ntmps11
          go_wp2
          go_loopw [13, 14] (fun s i wr => ∃ k : Nat, k ≤ n ∧ i = .int .i64 k ∧ s = .int .i64 (liveTo L k : Nat) ∧ wr = w) (fun _ i _ => n - (intOf i).toNat)
          case atStart => exact ⟨0, Nat.zero_le _, rfl, rfl, rfl⟩
          case round =>
            obtain ⟨k, hk, rfl, rfl, hw0⟩ := hrel
            obtain rfl := hw0.symm
            by_cases hlt : k < n
            · obtain ⟨x, hx⟩ := H0.out.some_ (by omega)
              subst hx
              obtain ⟨y, ey, d0, d1, d2⟩ := H0.out.at3 hlt
              have lv := liveTo_le L k
              have HS : Hid (liveTo L (k + 1) = liveTo L k + (if (L k).f = true then 0 else 1)) := show _ = _ from rfl
              obtain ⟨f, ef⟩ : ∃ f, (L k).f = f := ⟨_, rfl⟩
              rw [ef] at d2 HS
              obtain ⟨q, eq⟩ : ∃ q, liveTo L k = q := ⟨_, rfl⟩
              rw [eq] at HS lv ⊢
              clear ef eq d0 d1
              cases f with
              | true =>
                go_wp2
                go_roundw
                case rel => exact ⟨k + 1, by omega, by go_num, by rw [HS.out]; rfl, by first | rfl | trivial⟩
                case measure => simp [intOf]; omega
              | false =>
                go_wp2
                go_roundw
                case rel => exact ⟨k + 1, by omega, by go_num, by rw [HS.out]; simp, by first | rfl | trivial⟩
                case measure => simp [intOf]; omega
            · obtain rfl : k = n := by omega
              rw [← HLV.out]
              go_wp2
              go_loopw [15, 16] (fun o i wr => ∃ j : Nat, j ≤ m ∧ i = .int .i64 j ∧ o = .bool (okTo true R j) ∧ wr = w) (fun _ i _ => m - (intOf i).toNat)
              case atStart => exact ⟨0, Nat.zero_le _, rfl, rfl, rfl⟩
              case round =>
                obtain ⟨j, hj, rfl, rfl, hw0⟩ := hrel
                obtain rfl := hw0.symm
                by_cases hlt : j < m
                · obtain ⟨x1, hx1⟩ := H1.out.some_ (by omega)
                  subst hx1
                  have g0 := H1.out.cell x1 rfl j hlt
                  have HS : Hid (okTo true R (j + 1) = (okTo true R j && decide (0 < (R j).length))) := okTo_succ _ _ _
                  obtain ⟨b, eb⟩ : ∃ b, okTo true R j = b := ⟨_, rfl⟩
                  rw [eb] at HS ⊢
                  obtain ⟨T, eT⟩ : ∃ T, (R j).length = T := ⟨_, rfl⟩
                  rw [eT] at g0 HS
                  clear eb eT
                  cases b with
                  | true =>
                    by_cases hT0 : 0 < T
                    · have hT1 : (0 : Int) < (T : Int) := by omega
                      have HS2 : Hid (okTo true R (j + 1) = true) := by show _ = _; rw [HS.out]; simp [hT0]
                      clear HS
                      go_wp2
                      go_roundw
                      case rel => exact ⟨j + 1, by omega, by go_num, by rw [HS2.out], by first | rfl | trivial⟩
                      case measure => simp [intOf]; omega
                    · have hT1 : decide ((0 : Int) < (T : Int)) = false := decide_eq_false (by omega)
                      obtain rfl : T = 0 := by omega
                      have HS2 : Hid (okTo true R (j + 1) = false) := by show _ = _; rw [HS.out]; simp
                      clear HS
                      go_wp2
                      go_roundw
                      case rel => exact ⟨j + 1, by omega, by go_num, by rw [HS2.out], by first | rfl | trivial⟩
                      case measure => simp [intOf]; omega
                  | false =>
                    have HS2 : Hid (okTo true R (j + 1) = false) := by show _ = _; rw [HS.out]; rfl
                    clear HS
                    go_wp2
                    go_roundw
                    case rel => exact ⟨j + 1, by omega, by go_num, by rw [HS2.out], by first | rfl | trivial⟩
                    case measure => simp [intOf]; omega
                · obtain rfl : j = m := by omega
                  rw [HOK.out]
                  go_wp2
                  go_ret3
                  exact ⟨rfl, Below.refl _ _⟩
        · have HOK : Hid (okTo false R m = false) := show _ = _ from rfl
          clear ef
          have n0 : (0 : Int) < (n : Int) := by omega
          have hl2 := liveTo_le L n
          have HLV : Hid (m ≠ liveTo L n) := hlv
          clear hlv
          go_enter Try.func11, Try.ntmps11
          go_wp2
          go_loopw [13, 14] (fun s i wr => ∃ k : Nat, k ≤ n ∧ i = .int .i64 k ∧ s = .int .i64 (liveTo L k : Nat) ∧ wr = w) (fun _ i _ => n - (intOf i).toNat)
          case atStart => exact ⟨0, Nat.zero_le _, rfl, rfl, rfl⟩
          case round =>
            obtain ⟨k, hk, rfl, rfl, hw0⟩ := hrel
            obtain rfl := hw0.symm
            by_cases hlt : k < n
            · obtain ⟨x, hx⟩ := H0.out.some_ (by omega)
              subst hx
              obtain ⟨y, ey, d0, d1, d2⟩ := H0.out.at3 hlt
              have lv := liveTo_le L k
              have HS : Hid (liveTo L (k + 1) = liveTo L k + (if (L k).f = true then 0 else 1)) := show _ = _ from rfl
              obtain ⟨f, ef⟩ : ∃ f, (L k).f = f := ⟨_, rfl⟩
              rw [ef] at d2 HS
              obtain ⟨q, eq⟩ : ∃ q, liveTo L k = q := ⟨_, rfl⟩
              rw [eq] at HS lv ⊢
              clear ef eq d0 d1
              cases f with
              | true =>
                go_wp2
                go_roundw
                case rel => exact ⟨k + 1, by omega, by go_num, by rw [HS.out]; rfl, by first | rfl | trivial⟩
                case measure => simp [intOf]; omega
              | false =>
                go_wp2
                go_roundw
                case rel => exact ⟨k + 1, by omega, by go_num, by rw [HS.out]; simp, by first | rfl | trivial⟩
                case measure => simp [intOf]; omega
            · obtain rfl : k = n := by omega
              obtain ⟨q, eq⟩ : ∃ q, liveTo L k = q := ⟨_, rfl⟩
              have hne : ((q : Int) == (m : Int)) = false := by rw [← eq]; have := HLV.out; simp; omega
              rw [eq]
              clear eq
              go_wp2
              go_loopw [15, 16] (fun o i wr => ∃ j : Nat, j ≤ m ∧ i = .int .i64 j ∧ o = .bool (okTo false R j) ∧ wr = w) (fun _ i _ => m - (intOf i).toNat)
              case atStart => exact ⟨0, Nat.zero_le _, rfl, rfl, rfl⟩
              case round =>
                obtain ⟨j, hj, rfl, rfl, hw0⟩ := hrel
                obtain rfl := hw0.symm
                by_cases hlt : j < m
                · obtain ⟨x1, hx1⟩ := H1.out.some_ (by omega)
                  subst hx1
                  have g0 := H1.out.cell x1 rfl j hlt
                  have HS : Hid (okTo false R (j + 1) = (okTo false R j && decide (0 < (R j).length))) := okTo_succ _ _ _
                  obtain ⟨b, eb⟩ : ∃ b, okTo false R j = b := ⟨_, rfl⟩
                  rw [eb] at HS ⊢
                  obtain ⟨T, eT⟩ : ∃ T, (R j).length = T := ⟨_, rfl⟩
                  rw [eT] at g0 HS
                  clear eb eT
                  cases b with
                  | true =>
                    by_cases hT0 : 0 < T
                    · have hT1 : (0 : Int) < (T : Int) := by omega
                      have HS2 : Hid (okTo false R (j + 1) = true) := by show _ = _; rw [HS.out]; simp [hT0]
                      clear HS
                      go_wp2
                      go_roundw
                      case rel => exact ⟨j + 1, by omega, by go_num, by rw [HS2.out], by first | rfl | trivial⟩
                      case measure => simp [intOf]; omega
                    · have hT1 : decide ((0 : Int) < (T : Int)) = false := decide_eq_false (by omega)
                      obtain rfl : T = 0 := by omega
                      have HS2 : Hid (okTo false R (j + 1) = false) := by show _ = _; rw [HS.out]; simp
                      clear HS
                      go_wp2
                      go_roundw
                      case rel => exact ⟨j + 1, by omega, by go_num, by rw [HS2.out], by first | rfl | trivial⟩
                      case measure => simp [intOf]; omega
                  | false =>
                    have HS2 : Hid (okTo false R (j + 1) = false) := by show _ = _; rw [HS.out]; rfl
                    clear HS
                    go_wp2
                    go_roundw
                    case rel => exact ⟨j + 1, by omega, by go_num, by rw [HS2.out], by first | rfl | trivial⟩
                    case measure => simp [intOf]; omega
                · obtain rfl : j = m := by omega
                  rw [HOK.out]
                  go_wp2
                  go_ret3
                  exact ⟨rfl, Below.refl _ _⟩

end Go.Proofs.Yteeljnibglnflaa
