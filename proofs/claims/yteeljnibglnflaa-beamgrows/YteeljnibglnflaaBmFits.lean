/- Whether the rows fit the beams; a candidate with tokens of its own: contracts of the calls. -/
import Derived.Test.YteeljnibglnflaaRows
import Derived.Test.YteeljnibglnflaaView
import Derived.Test.YteeljnibglnflaaOwn
import Derived.Test.YteeljnibglnflaaSoft
import Derived.Test.YteeljnibglnflaaSat
import Derived.Test.YteeljnibglnflaaSatRef
import Derived.Test.YteeljnibglnflaaBmZ
import Derived.Test.YteeljnibglnflaaBmAt
import Derived.Test.YteeljnibglnflaaGMean
import Derived.WalkKit
import Derived.ProofKit
import Derived.OpenShut
import Derived.WalkLawsBesides
import Derived.Below
import Derived.Deep.QuietTactic
import Derived.BigQuiet
import Derived.Laws.AppendOwnNone
import Derived.Test.YteeljnibglnflaaBmPre
import Derived.Test.YteeljnibglnflaaSteps
namespace Go.Proofs.Yteeljnibglnflaa
set_option maxRecDepth 20000
open Go.ChangeShapes Go.WideShapes Go.ChangeAt Go.RowKit
set_option linter.unusedVariables false

theorem fits_call (a0 : Option Addr) (n c0 : Nat) (A : Nat → Option Addr) (C : Nat → Nat) (L : Nat → Bm) (a1 : Option Addr) (m c1 : Nat) (A1 : Nat → Option Addr) (C1 : Nat → Nat) (R : Nat → List Int) (w : World)
    (h0 : BmAt w a0 n A C L) (h1 : Grid w a1 m A1 C1 R) :
    Calls Try.prog 20 #[.slice a0 n c0, .slice a1 m c1] w fun e w' => e = .returned (.bool (fitB L n R m)) ∧ Below w.heap.size w w' := by
  have hm := h0.max
  have hm1 := h1.max
  obtain ⟨X, eX⟩ : ∃ X, fitB L n R m = X := ⟨_, rfl⟩
  rw [eX]
  have EX : Hid (fitB L n R m = X) := eX
  clear eX
  go_enter Try.func20, Try.ntmps20
  go_wp2
  go_loopw [5, 11] (fun s i wr => ∃ k : Nat, k ≤ n ∧ i = .int .i64 k ∧ s = .int .i64 (liveTo L k : Nat) ∧ Below w.heap.size w wr) (fun _ i _ => n - (intOf i).toNat)
  case atStart => exact ⟨0, Nat.zero_le _, rfl, rfl, Below.refl _ _⟩
  case round =>
    obtain ⟨k, hk, rfl, rfl, hbr⟩ := hrel
    by_cases hlt : k < n
    · have hr := h0.below hbr
      obtain ⟨x, rfl⟩ := h0.some_ (by omega)
      obtain ⟨y, ey, d0, d1, d2⟩ := hr.at3 hlt
      have ll := liveTo_le L k
      have bb := below_new hbr (.cells #[.slice (A k) (L k).t.length (C k), .int .i64 (L k).s, .bool (L k).f] 40)
      cases hf : (L k).f with
      | true =>
        have EN : Hid (liveTo L (k + 1) = liveTo L k) := by show liveTo L k + _ = _; rw [hf]; rfl
        rw [hf] at d2 bb
        obtain ⟨V, eV⟩ : ∃ V, liveTo L k = V := ⟨_, rfl⟩
        rw [eV] at EN ll ⊢
        clear eV hf hr
        go_wp2
        go_roundw
        case rel => exact ⟨k + 1, by omega, by go_num, by rw [EN.out], bb⟩
        case measure => simp [intOf]; omega
      | false =>
        have EN : Hid (liveTo L (k + 1) = liveTo L k + 1) := by show liveTo L k + _ = _; rw [hf]; rfl
        rw [hf] at d2 bb
        obtain ⟨V, eV⟩ : ∃ V, liveTo L k = V := ⟨_, rfl⟩
        rw [eV] at EN ll ⊢
        clear eV hf hr
        go_wp2
        go_roundw
        case rel => exact ⟨k + 1, by omega, by go_num, by rw [EN.out]; go_num, bb⟩
        case measure => simp [intOf]; omega
    · obtain rfl : k = n := by omega
      have kc := fun W hb => contains_call a1 m c1 A1 C1 R W (h1.below hb)
      have EF : Hid (∀ B, ((List.range m).all fun r => decide (0 < (R r).length)) = B → fitB L k R m = (decide (0 < k) && decide (m = liveTo L k) && B)) := by
        show ∀ B, _ → _
        intro B hB
        unfold fitB
        rw [hB]
      have ll := liveTo_le L k
      obtain ⟨V, eV⟩ : ∃ V, liveTo L k = V := ⟨_, rfl⟩
      obtain ⟨B, eB⟩ : ∃ B, ((List.range m).all fun r => decide (0 < (R r).length)) = B := ⟨_, rfl⟩
      have EF2 := EF.out B eB
      rw [eV] at EF2 ll ⊢
      rw [eB] at kc
      clear EF eV eB
      rw [EX.out] at EF2
      clear EX
      by_cases h2 : k = 0
      · have t1 : decide ((k : Int) > 0) = false := decide_eq_false (by omega)
        have t1' : ¬ (0 < (k : Int)) := by omega
        obtain rfl : X = false := by rw [EF2]; simp [h2]
        clear EF2 h2
        go_wp2
        go_ret
        exact ⟨rfl, hbr⟩
      · have t1' : (0 < (k : Int)) := by omega
        by_cases h3 : m = V
        · subst h3
          obtain rfl : X = B := by rw [EF2]; simp; omega
          clear EF2 h2
          go_wp2_with (go_at_call 32; refine (kc _ hbr).mono ?_; rintro e w' ⟨rfl, h⟩; obtain rfl := h.symm)
          go_ret
          exact ⟨by simp, hbr⟩
        · have t2 : ((m : Int) == (V : Int)) = false := by simp; omega
          have t3 : ¬ (m : Int) = (V : Int) := by omega
          obtain rfl : X = false := by rw [EF2]; simp [h3]
          clear EF2 h2 h3
          go_wp2
          go_ret
          exact ⟨rfl, hbr⟩

theorem isNaN_call (x : Int) (w : World) : Calls Try.prog 36 #[.int .i64 x] w fun e w' => e = .returned (.bool false) ∧ w' = w := by
  go_enter Try.func36, Try.ntmps36
  go_wp2
  go_ret
  exact ⟨by simp, rfl⟩

/-- what Compare answers -/
def cmpZ (x y : Int) : Int := if x < y then -1 else if y < x then 1 else 0

theorem compare_call (x y : Int) (w : World) : Calls Try.prog 24 #[.int .i64 x, .int .i64 y] w fun e w' => e = .returned (.int .i64 (cmpZ x y)) ∧ w' = w := by
  have kn := fun z W => isNaN_call z W
  unfold cmpZ
  by_cases h1 : x < y
  · rw [if_pos h1]
    go_enter Try.func24, Try.ntmps24
    go_wp2_with (go_at_call 36; refine (kn _ _).mono ?_; rintro e w' ⟨rfl, h⟩; obtain rfl := h.symm)
    go_ret
    exact ⟨rfl, rfl⟩
  · rw [if_neg h1]
    by_cases h2 : y < x
    · rw [if_pos h2]
      go_enter Try.func24, Try.ntmps24
      go_wp2_with (go_at_call 36; refine (kn _ _).mono ?_; rintro e w' ⟨rfl, h⟩; obtain rfl := h.symm)
      go_ret
      exact ⟨rfl, rfl⟩
    · rw [if_neg h2]
      go_enter Try.func24, Try.ntmps24
      go_wp2_with (go_at_call 36; refine (kn _ _).mono ?_; rintro e w' ⟨rfl, h⟩; obtain rfl := h.symm)
      go_ret
      exact ⟨rfl, rfl⟩

theorem closure_call (u0 v0 : Value) (x y : Int) (u2 v2 : Value) (u3 u4 v3 v4 : Value) (o1 : u0.oneCell' = true) (o2 : v0.oneCell' = true) (w : World) :
    Calls Try.prog 23 #[.agg #[u0, .int .i64 x, u2, u3, u4], .agg #[v0, .int .i64 y, v2, v3, v4]] w fun e w' => e = .returned (.int .i64 (cmpZ y x)) ∧ ∃ o o', w' = (w.alloc o).alloc o' := by
  have kc := fun W => compare_call y x W
  go_enter Try.func23, Try.ntmps23
  go_wp2_with (go_at_call 24; refine (kc _).mono ?_; rintro e w' ⟨rfl, h⟩; obtain rfl := h.symm)
  go_ret
  exact ⟨rfl, _, _, rfl⟩

end Go.Proofs.Yteeljnibglnflaa
