/- Whether a case is great: a contract of the call. -/
import Derived.Test.YteeljnibglnflaaRows
import Derived.Test.YteeljnibglnflaaView
import Derived.Test.YteeljnibglnflaaOwn
import Derived.Test.YteeljnibglnflaaBmZ
import Derived.Test.YteeljnibglnflaaBmAt
import Derived.Test.YteeljnibglnflaaGMean
import Derived.Test.YteeljnibglnflaaBmFin
import Derived.WalkKit
import Derived.ProofKit
import Derived.OpenShut
import Derived.WalkLawsBesides
import Derived.Below
import Derived.Deep.QuietTactic
import Derived.BigQuiet
import Derived.Laws.AppendOwnNone
namespace Go.Proofs.Yteeljnibglnflaa
set_option maxRecDepth 20000
open Go.ChangeShapes Go.WideShapes Go.ChangeAt Go.RowKit
set_option linter.unusedVariables false
set_option linter.unusedSimpArgs false

/-- a case's variable -/
def csC (la : Option Addr) (n lc : Nat) (ra : Option Addr) (m rc : Nat) (W Ln St Pn : Int) : List Value := [.slice la n lc, .slice ra m rc, .int .i64 W, .int .i64 Ln, .int .i64 St, .int .i64 Pn]

def GreatAns (e : Ending) (L : Nat → Bm) (n : Nat) (R : Nat → List Int) (m : Nat) : Prop := ∃ g, e = .returned (.bool g) ∧ (g = false → n < 200 ∧ (∀ r, r < n → (L r).t.length < 200) ∧ ∀ r, r < m → (R r).length < 200)

set_option maxHeartbeats 2000000 in
theorem great_call (la : Option Addr) (n lc : Nat) (A : Nat → Option Addr) (C : Nat → Nat) (L : Nat → Bm) (ra : Option Addr) (m rc : Nat) (A1 : Nat → Option Addr) (C1 : Nat → Nat) (R : Nat → List Int) (W Ln St Pn : Int) (w : World) (h0 : BmAt w la n A C L) (h1 : Grid w ra m A1 C1 R)
    (hn : n ≤ 1152921504606846976) (hT : ∀ r, r < n → (L r).t.length ≤ 1152921504606846976) (hR : ∀ r, r < m → (R r).length ≤ 1152921504606846976) :
    Calls Try.prog 8 #[.agg #[.slice la n lc, .slice ra m rc, .int .i64 W, .int .i64 Ln, .int .i64 St, .int .i64 Pn]] w fun e w' => GreatAns e L n R m ∧ Below w.heap.size w w' := by
  have hm := h0.max
  have hm1 := h1.max
  obtain ⟨W0, eW0⟩ : ∃ W0, w.alloc (.cells #[.slice la n lc, .slice ra m rc, .int .i64 W, .int .i64 Ln, .int .i64 St, .int .i64 Pn] 25) = W0 := ⟨_, rfl⟩
  have b0 : Below w.heap.size w W0 := by rw [← eW0]; exact below_new (Below.refl _ _) _
  have c0' : W0.cell? ⟨w.heap.size, 0, none⟩ = some (.slice la n lc) := by rw [← eW0]; simp
  have c1' : W0.cell? ⟨w.heap.size, 1, none⟩ = some (.slice ra m rc) := by rw [← eW0]; simp
  have H0 : Hid (BmAt W0 la n A C L) := h0.below b0
  have H1 : Hid (Grid W0 ra m A1 C1 R) := h1.below b0
  have HT : Hid (∀ r, r < n → (L r).t.length ≤ 1152921504606846976) := hT
  have HR : Hid (∀ r, r < m → (R r).length ≤ 1152921504606846976) := hR
  clear h0 h1 hT hR
  go_enter Try.func8, Try.ntmps8
  go_wp2
  go_loopw [3, 4] (fun s i wr => ∃ k N : Nat, k ≤ n ∧ i = .int .i64 k ∧ s = .int .i64 N ∧ n ≤ N ∧ N ≤ 2305843009213693952 ∧ wr = W0 ∧ Hid (∀ r, r < k → (L r).t.length ≤ N)) (fun _ i _ => n - (intOf i).toNat)
  case atStart => exact ⟨0, n, Nat.zero_le _, rfl, rfl, Nat.le_refl _, by omega, rfl, fun r hr => by omega⟩
  case round =>
    obtain ⟨k, N, hk, rfl, rfl, hnN, hN, hw0, HA⟩ := hrel
    obtain rfl := hw0.symm
    by_cases hgo : k < n ∧ N < 200
    · obtain ⟨hlt, hN2⟩ := hgo
      obtain ⟨x, hx⟩ := H0.out.some_ (by omega)
      subst hx
      obtain ⟨y, ey, d0, d1, d2⟩ := H0.out.at3 hlt
      have tl := HT.out k hlt
      have HA2 : Hid (∀ r, r < k + 1 → (L r).t.length ≤ N + (L k).t.length) := show ∀ r, r < k + 1 → _ from fun r hr => by
        by_cases e : r = k
        · subst e; omega
        · have := HA.out r (by omega); omega
      obtain ⟨T, eT⟩ : ∃ T, (L k).t.length = T := ⟨_, rfl⟩
      rw [eT] at d0 tl HA2
      obtain ⟨NT, eNT⟩ : ∃ NT, N + T = NT := ⟨_, rfl⟩
      have zNT : (N : Int) + (T : Int) = (NT : Int) := by omega
      rw [eNT] at HA2
      have hNT : NT ≤ 2305843009213693952 ∧ n ≤ NT := by omega
      clear eT HA eNT
      go_wp2
      go_roundw
      case rel => exact ⟨k + 1, NT, by omega, by go_num, rfl, hNT.2, hNT.1, by first | rfl | trivial, HA2⟩
      case measure => simp [intOf]; omega
    · have HE : Hid (N < 200 → ∀ r, r < n → (L r).t.length ≤ N) := show N < 200 → ∀ r, r < n → _ from fun h r hr => HA.out r (by omega)
      have hex : ¬ ((k : Int) < (n : Int)) ∨ ¬ ((N : Int) < 200) := by omega
      clear HA hgo
      have hex' : ((k : Int) < (n : Int) ∧ ¬ ((N : Int) < 200)) ∨ ¬ ((k : Int) < (n : Int)) := by omega
      clear hex
      rcases hex' with ⟨hex, hexb⟩ | hex
      all_goals (
        go_wp2
        go_loopw [3, 5] (fun s i wr => ∃ j M : Nat, j ≤ m ∧ i = .int .i64 j ∧ s = .int .i64 M ∧ N ≤ M ∧ M ≤ 4611686018427387904 ∧ wr = W0 ∧ Hid (∀ r, r < j → (R r).length ≤ M)) (fun _ i _ => m - (intOf i).toNat)
        case atStart => exact ⟨0, N, Nat.zero_le _, rfl, rfl, Nat.le_refl _, by omega, rfl, fun r hr => by omega⟩
        case round =>
          obtain ⟨j, M, hj, rfl, rfl, hNM, hM, hw0, HA⟩ := hrel
          obtain rfl := hw0.symm
          by_cases hgo : j < m ∧ M < 200
          · obtain ⟨hlt, hN2⟩ := hgo
            by_cases hbad : 200 ≤ N
            · exfalso
              omega
            · try clear hexb
              clear hbad
              obtain ⟨x, hx⟩ := H1.out.some_ (by omega)
              subst hx
              have d0 := H1.out.cell x rfl j hlt
              have tl := HR.out j hlt
              have HA2 : Hid (∀ r, r < j + 1 → (R r).length ≤ M + (R j).length) := show ∀ r, r < j + 1 → _ from fun r hr => by
                by_cases e : r = j
                · subst e; omega
                · have := HA.out r (by omega); omega
              obtain ⟨T, eT⟩ : ∃ T, (R j).length = T := ⟨_, rfl⟩
              rw [eT] at d0 tl HA2
              obtain ⟨NT, eNT⟩ : ∃ NT, M + T = NT := ⟨_, rfl⟩
              have zNT : (M : Int) + (T : Int) = (NT : Int) := by omega
              rw [eNT] at HA2
              have hNT : NT ≤ 4611686018427387904 ∧ N ≤ NT := by omega
              clear eT HA eNT
              go_wp2
              go_roundw
              case rel => exact ⟨j + 1, NT, by omega, by go_num, rfl, hNT.2, hNT.1, by first | rfl | trivial, HA2⟩
              case measure => simp [intOf]; omega
          · have HE2 : Hid (M < 200 → ∀ r, r < m → (R r).length ≤ M) := show M < 200 → ∀ r, r < m → _ from fun h r hr => HA.out r (by omega)
            have hex2 : ¬ ((j : Int) < (m : Int)) ∨ ¬ ((M : Int) < 200) := by omega
            clear HA hgo
            have done : ∀ g : Bool, g = decide ((200 : Int) ≤ (M : Int)) → (g = false → n < 200 ∧ (∀ r, r < n → (L r).t.length < 200) ∧ ∀ r, r < m → (R r).length < 200) := fun g hg h => by
              subst hg
              have h2 : M < 200 := by have := of_decide_eq_false h; omega
              exact ⟨by omega, fun r hr => by have := HE.out (by omega) r hr; omega, fun r hr => by have := HE2.out h2 r hr; omega⟩
            have DN : Hid _ := done
            clear done
            have hex3 : ((j : Int) < (m : Int) ∧ ¬ ((M : Int) < 200)) ∨ ¬ ((j : Int) < (m : Int)) := by omega
            clear hex2
            rcases hex3 with ⟨hex2, hex2b⟩ | hex2
            all_goals (
              go_wp2
              go_ret
              exact ⟨⟨_, rfl, fun h => DN.out _ (by first | rfl | (symm; apply decide_eq_true; omega) | (symm; apply decide_eq_false; omega)) h⟩, b0⟩))

end Go.Proofs.Yteeljnibglnflaa
