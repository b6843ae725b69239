/- The program's count of pages that have a tag. -/
import Derived.Test.YtfggkkhehaafcaaRows
import Derived.Test.YtfggkkhehaafcaaPages
import Derived.Test.YtfggkkhehaafcaaReadsP
import Derived.WalkKit
import Derived.ProofKit
import Derived.OpenShut
import Derived.Below
import Derived.WalkLawsBesides
import Derived.Deep.QuietTactic
import Derived.BigQuiet
namespace Go.Proofs.Ytfggkkhehaafcaa
open Go.ChangeShapes Go.WideShapes Go.ChangeAt Go.RowKit
set_option linter.unusedVariables false

theorem count_call {B : Nat} {w : World} {b g : Nat} {s : Pl} (h : PoolAt B w b g s) (hn : s.n ≤ 256) (t : ByteArray) :
    Calls Try.prog 29 #[.pointer (some ⟨b, 0, none⟩), .string t] w fun e w' => e = .returned (.int .i64 (cntTo s.pg t s.n)) ∧ w' = w := by
  obtain ⟨n, p, A⟩ := s
  have t0 := h.t0
  have Hf := hidden_ fun i => cntTo_le p t i
  have Hp := hidden_ h.pg
  clear h
  simp only at t0 hn Hp ⊢
  obtain ⟨X, eX⟩ : ∃ X : Addr, X = ⟨g, 0, none⟩ := ⟨_, rfl⟩
  rw [← eX] at t0
  have HX := hidden_ eX
  clear eX
  go_enter Try.func29, Try.ntmps29
  go_wp2
  go_loopw [5, 12] (fun v3 i wr => ∃ k : Nat, k ≤ n ∧ i = .int .i64 k ∧ v3 = .int .i64 (cntTo p t k) ∧ wr = w) (fun _ i _ => n - (intOf i).toNat)
  case atStart => exact ⟨0, Nat.zero_le _, rfl, rfl, rfl⟩
  case round =>
    obtain ⟨k, hk, rfl, rfl, hw⟩ := hrel
    subst hw
    have f1 := Hf.out k
    obtain ⟨F, eF⟩ : ∃ F, cntTo p t k = F := ⟨_, rfl⟩
    rw [eF] at f1 ⊢
    by_cases hlt : k < n
    · have c1 := (Hp.out k hlt).c1
      have c0 := (Hp.out k hlt).c0
      obtain ⟨P, eP⟩ : ∃ P, X.add (k * 34) = P := ⟨_, rfl⟩
      have e' : P = ⟨g, k * 34, none⟩ := by rw [← eP, HX.out, add_zero_at]
      have c1' : wr.cell? ⟨P.block, P.off + 1, none⟩ = some (.int .i64 (p k).ow) := by rw [e']; exact c1
      have c0' : wr.cell? P = some (.string (p k).tag) := by rw [e']; exact c0
      clear c1 c0 e'
      obtain ⟨O, eO⟩ : ∃ O, (p k).ow = O := ⟨_, rfl⟩
      obtain ⟨T, eT⟩ : ∃ T, (p k).tag = T := ⟨_, rfl⟩
      rw [eO] at c1'
      rw [eT] at c0'
      by_cases hO : 0 < O
      · by_cases hT : T.toList = t.toList
        · have HF := hidden_ (show cntTo p t (k + 1) = F + 1 by simp only [cntTo]; rw [if_pos ⟨by rw [eO]; exact hO, by rw [eT]; exact hT⟩, eF])
          have q : (T.toList == t.toList) = true := by simp [hT]
          clear eO eF eT hT
          go_wp2
          go_roundw
          case rel => exact ⟨k + 1, by omega, by go_num, by rw [HF.out]; go_num, trivial⟩
          case measure => simp [intOf]; omega
        · have HF := hidden_ (show cntTo p t (k + 1) = F by simp only [cntTo]; rw [if_neg (fun x => hT (by rw [← eT]; exact x.2)), eF]; rfl)
          have q : (T.toList == t.toList) = false := by simp [hT]
          clear eO eF eT hT
          go_wp2
          go_roundw
          case rel => exact ⟨k + 1, by omega, by go_num, by rw [HF.out], trivial⟩
          case measure => simp [intOf]; omega
      · have HF := hidden_ (show cntTo p t (k + 1) = F by simp only [cntTo]; rw [if_neg (fun x => hO (by rw [← eO]; exact x.1)), eF]; rfl)
        clear eO eF eT
        go_wp2
        go_roundw
        case rel => exact ⟨k + 1, by omega, by go_num, by rw [HF.out], trivial⟩
        case measure => simp [intOf]; omega
    · have e : k = n := by omega
      subst e
      have HF := hidden_ eF
      clear eF
      go_wp2
      go_ret
      exact ⟨by rw [HF.out]; rfl, rfl⟩

end Go.Proofs.Ytfggkkhehaafcaa
