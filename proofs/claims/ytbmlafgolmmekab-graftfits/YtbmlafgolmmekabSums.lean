/- What Two and Sum give back, the program's and the document's: contracts of the calls. -/
import Derived.Test.YtbmlafgolmmekabRows
import Derived.Test.YtbmlafgolmmekabView
import Derived.Test.YtbmlafgolmmekabOwn
import Derived.Test.YtbmlafgolmmekabWorks
import Derived.Test.YtbmlafgolmmekabTexts
import Derived.WalkKit
import Derived.ProofKit
import Derived.OpenShut
import Derived.Below
import Derived.WalkLawsBesides
namespace Go.Proofs.Ytbmlafgolmmekab
open Go.ChangeShapes Go.WideShapes Go.ChangeAt Go.RowKit
set_option linter.unusedVariables false

theorem wf_u8 {x : Int} (h0 : 0 ≤ x) (h1 : x < 256) : (Lit.int .u8 x).wf = true := by
  have : 0 ≤ x ∧ x ≤ 255 := ⟨h0, by omega⟩
  simpa [Lit.wf, IntKind.min, IntKind.max, IntKind.signed, IntKind.bits] using this

theorem conv_two (w : World) (x y : Int) (hx : 0 ≤ x ∧ x < 256) (hy : 0 ≤ y ∧ y < 256) (c : Nat) :
    (convert 65 9 (.slice (some ⟨w.heap.size, 0, none⟩) 2 c)).run Try.prog (w.alloc (.cells #[.int .u8 x, .int .u8 y] 5)) = .ok (.string (bytesOf [x, y])) (w.alloc (.cells #[.int .u8 x, .int .u8 y] 5)) :=
  conv_row c (lit2 .u8 w 5 _ rfl x y (wf_u8 hx.1 hx.2) (wf_u8 hy.1 hy.2))

theorem two_call (n : Int) (w : World) (hn : (Lit.int .i64 n).wf = true) :
    Calls Try.prog 18 #[.int .i64 n] w fun e w' => e = .returned (.string (two n)) ∧ ∃ o, w' = w.alloc o := by
  have cv := conv_two w (n % 256) (n / 256 % 256) ⟨by omega, by omega⟩ ⟨by omega, by omega⟩
  go_enter Try.func18, Try.ntmps18
  go_wp2
  go_ret
  exact ⟨rfl, _, rfl⟩

theorem sum_call (s : ByteArray) (w : World) (hs : s.size ≤ 9223372036854775807) :
    Calls Try.prog 32 #[.string s] w fun e w' => e = .returned (.int .i64 (sumZ s)) ∧ w' = w := by
  go_enter Try.func32, Try.ntmps32
  go_wp2
  go_loopw [3, 4, 8] (fun a b i wr => ∃ k : Nat, k ≤ s.size ∧ a = .int .i64 (aTo s k) ∧ b = .int .i64 (bTo s k) ∧ i = .int .i64 k ∧ wr = w) (fun _ _ i _ => s.size - (intOf i).toNat)
  case atStart => exact ⟨0, Nat.zero_le _, rfl, rfl, rfl, rfl⟩
  case round =>
    obtain ⟨k, hk, rfl, rfl, rfl, rfl⟩ := hrel
    by_cases hlt : k < s.size
    · obtain ⟨A0, A1⟩ := aTo_bounds s k
      obtain ⟨B0, B1⟩ := bTo_bounds s k
      have hB := byteZ_lt s k
      have eB := byteZ_at s k hlt
      have ea : aTo s (k + 1) = (aTo s k + byteZ s k) % 255 := rfl
      have eb : bTo s (k + 1) = (bTo s k + aTo s (k + 1)) % 255 := rfl
      obtain ⟨A0', A1'⟩ := aTo_bounds s (k + 1)
      obtain ⟨X, eX⟩ : ∃ X, byteZ s k = X := ⟨_, rfl⟩
      obtain ⟨A, eA⟩ : ∃ A, aTo s k = A := ⟨_, rfl⟩
      obtain ⟨B, eB'⟩ : ∃ B, bTo s k = B := ⟨_, rfl⟩
      rw [eX] at eB hB ea
      rw [eA] at A0 A1 ea ⊢
      rw [eB'] at B0 B1 eb ⊢
      obtain ⟨A', eA'⟩ : ∃ A', (A + (X : Int)) % 255 = A' := ⟨_, rfl⟩
      rw [eA'] at ea
      rw [ea] at eb A0' A1'
      have Ha : Hid (aTo s (k + 1) = A') := ea
      have Hb : Hid (bTo s (k + 1) = (B + A') % 255) := eb
      clear ea eb eX eA eB'
      go_wp2
      go_roundw
      case rel => exact ⟨k + 1, by omega, by rw [Ha.out, eA'], by rw [Hb.out], by go_num, trivial⟩
      case measure => simp [intOf]; omega
    · have e : k = s.size := by omega
      subst e
      obtain ⟨A0, A1⟩ := aTo_bounds s s.size
      obtain ⟨B0, B1⟩ := bTo_bounds s s.size
      have es : Hid (sumZ s = 256 * bTo s s.size + aTo s s.size) := rfl
      obtain ⟨A, eA⟩ : ∃ A, aTo s s.size = A := ⟨_, rfl⟩
      obtain ⟨B, eB⟩ : ∃ B, bTo s s.size = B := ⟨_, rfl⟩
      rw [eA, eB] at es
      rw [eA] at A0 A1 ⊢
      rw [eB] at B0 B1 ⊢
      clear eA eB
      go_wp2
      go_ret
      exact ⟨by rw [es.out]; rfl, rfl⟩

end Go.Proofs.Ytbmlafgolmmekab
