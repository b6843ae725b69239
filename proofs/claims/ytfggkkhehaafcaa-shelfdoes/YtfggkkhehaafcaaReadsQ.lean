/- The program's functions that tell of one page, and the sizes: their contracts. -/
import Derived.Test.YtfggkkhehaafcaaRows
import Derived.Test.YtfggkkhehaafcaaPages
import Derived.Test.YtfggkkhehaafcaaReadsP
import Derived.WalkKit
import Derived.ProofKit
import Derived.OpenShut
import Derived.Below
import Derived.WalkLawsBesides
import Derived.Deep.QuietTactic
import Derived.BigQuiet
namespace Go.Proofs.Ytfggkkhehaafcaa
open Go.ChangeShapes Go.WideShapes Go.ChangeAt Go.RowKit
set_option linter.unusedVariables false

def owZ (s : Pl) (z : Int) : Int := if usedB s z = true then (s.pg z.toNat).ow else 0
def tagZ (s : Pl) (z : Int) : ByteArray := if usedB s z = true then (s.pg z.toNat).tag else ⟨#[]⟩
def getE (s : Pl) (z c : Int) : Int := if usedB s z = true then (if 0 ≤ c ∧ c < 32 then 0 else 20) else 25
def getV (s : Pl) (z c : Int) : Int := if getE s z c = 0 then (s.pg z.toNat).cell c.toNat else 0

theorem used_of {s : Pl} {z : Int} (h : usedB s z = true) : 0 ≤ z ∧ z < (s.n : Int) ∧ (s.pg z.toNat).ow ≠ 0 := of_decide_eq_true h

theorem owners_call {B : Nat} {w : World} {b g : Nat} {s : Pl} (h : PoolAt B w b g s) (hn : s.n ≤ 256) (z : Int) :
    Calls Try.prog 51 #[.pointer (some ⟨b, 0, none⟩), .int .i64 z] w fun e w' => e = .returned (.int .i64 (owZ s z)) ∧ w' = w := by
  have k := owned_call h hn z
  unfold ownA at k
  unfold owZ
  by_cases hu : usedB s z = true
  · rw [if_pos hu] at k ⊢
    have hu' := used_of hu
    have c1 := (h.pg z.toNat (by omega)).c1
    obtain ⟨O, eO⟩ : ∃ O, (s.pg z.toNat).ow = O := ⟨_, rfl⟩
    rw [eO] at c1 ⊢
    clear eO hu hu' h
    go_enter Try.func51, Try.ntmps51
    go_wp2_with (first | (go_at_call 69; refine k.mono ?_; rintro e W1 ⟨rfl, h1⟩; obtain rfl := h1.symm))
    go_ret
    exact ⟨rfl, rfl⟩
  · rw [if_neg hu] at k ⊢
    clear hu h
    go_enter Try.func51, Try.ntmps51
    go_wp2_with (first | (go_at_call 69; refine k.mono ?_; rintro e W1 ⟨rfl, h1⟩; obtain rfl := h1.symm))
    go_ret
    exact ⟨rfl, rfl⟩

theorem tag_call {B : Nat} {w : World} {b g : Nat} {s : Pl} (h : PoolAt B w b g s) (hn : s.n ≤ 256) (z : Int) :
    Calls Try.prog 53 #[.pointer (some ⟨b, 0, none⟩), .int .i64 z] w fun e w' => e = .returned (.string (tagZ s z)) ∧ w' = w := by
  have k := owned_call h hn z
  unfold ownA at k
  unfold tagZ
  by_cases hu : usedB s z = true
  · rw [if_pos hu] at k ⊢
    have hu' := used_of hu
    have c1 := (h.pg z.toNat (by omega)).c0
    obtain ⟨O, eO⟩ : ∃ O, (s.pg z.toNat).tag = O := ⟨_, rfl⟩
    rw [eO] at c1 ⊢
    clear eO hu hu' h
    go_enter Try.func53, Try.ntmps53
    go_wp2_with (first | (go_at_call 69; refine k.mono ?_; rintro e W1 ⟨rfl, h1⟩; obtain rfl := h1.symm))
    go_ret
    exact ⟨rfl, rfl⟩
  · rw [if_neg hu] at k ⊢
    clear hu h
    go_enter Try.func53, Try.ntmps53
    go_wp2_with (first | (go_at_call 69; refine k.mono ?_; rintro e W1 ⟨rfl, h1⟩; obtain rfl := h1.symm))
    go_ret
    exact ⟨rfl, rfl⟩

/-- where a page's cell lies -/
def placeA (g : Nat) (s : Pl) (z c : Int) : Option Addr := if getE s z c = 0 then some ⟨g, z.toNat * 34 + 2 + c.toNat, none⟩ else none

theorem place_call {B : Nat} {w : World} {b g : Nat} {s : Pl} (h : PoolAt B w b g s) (hn : s.n ≤ 256) (z c : Int) :
    Calls Try.prog 82 #[.pointer (some ⟨b, 0, none⟩), .int .i64 z, .int .i64 c] w fun e w' => e = .returned (.tuple #[.pointer (placeA g s z c), .int .i64 (getE s z c)]) ∧ w' = w := by
  have k := owned_call h hn z
  unfold ownA at k
  unfold placeA getE
  by_cases hu : usedB s z = true
  · rw [if_pos hu] at k
    simp only [hu, if_true]
    by_cases h0 : c < 0
    · simp only [if_neg (show ¬ (0 ≤ c ∧ c < 32) by omega)]
      rw [if_neg (by decide)]
      clear hu h
      go_enter Try.func82, Try.ntmps82
      go_wp2_with (first | (go_at_call 69; refine k.mono ?_; rintro e W1 ⟨rfl, h1⟩; obtain rfl := h1.symm))
      go_ret2
      exact ⟨rfl, rfl⟩
    · by_cases h1 : 32 ≤ c
      · simp only [if_neg (show ¬ (0 ≤ c ∧ c < 32) by omega)]
        rw [if_neg (by decide)]
        clear hu h
        go_enter Try.func82, Try.ntmps82
        go_wp2_with (first | (go_at_call 69; refine k.mono ?_; rintro e W1 ⟨rfl, h1⟩; obtain rfl := h1.symm))
        go_ret2
        exact ⟨rfl, rfl⟩
      · simp only [if_pos (show 0 ≤ c ∧ c < 32 by omega)]
        rw [if_pos trivial]
        obtain ⟨j, rfl⟩ : ∃ j : Nat, c = (j : Int) := ⟨c.toNat, by omega⟩
        have hj : j < 32 := by omega
        have e : (⟨g, z.toNat * 34 + 2 + (j : Int).toNat, none⟩ : Addr) = (⟨g, z.toNat * 34 + 2, none⟩ : Addr).add j := by rw [add_at]; simp
        rw [e]
        obtain ⟨Y, eY⟩ : ∃ Y, (⟨g, z.toNat * 34 + 2, none⟩ : Addr) = Y := ⟨_, rfl⟩
        clear hu h e
        rw [eY]
        go_enter Try.func82, Try.ntmps82
        go_wp2_with (first | (go_at_call 69; refine k.mono ?_; rintro e W1 ⟨rfl, h1⟩; obtain rfl := h1.symm))
        go_ret2
        exact ⟨rfl, rfl⟩
  · rw [if_neg hu] at k
    simp only [hu]
    rw [if_neg (by simp), if_neg (by simp)]
    clear hu h
    go_enter Try.func82, Try.ntmps82
    go_wp2_with (first | (go_at_call 69; refine k.mono ?_; rintro e W1 ⟨rfl, h1⟩; obtain rfl := h1.symm))
    go_ret2
    exact ⟨rfl, rfl⟩

theorem getE_zero {s : Pl} {z c : Int} (h : getE s z c = 0) : usedB s z = true ∧ 0 ≤ c ∧ c < 32 := by
  unfold getE at h
  split at h
  · split at h
    · rename_i a b; exact ⟨a, b⟩
    · omega
  · omega
theorem getE_some (s : Pl) (z c : Int) : getE s z c = 0 ∨ getE s z c = 20 ∨ getE s z c = 25 := by
  unfold getE
  split
  · split <;> simp
  · simp

theorem get_call {B : Nat} {w : World} {b g : Nat} {s : Pl} (h : PoolAt B w b g s) (hn : s.n ≤ 256) (z c : Int) :
    Calls Try.prog 73 #[.pointer (some ⟨b, 0, none⟩), .int .i64 z, .int .i64 c] w fun e w' => e = .returned (.tuple #[.int .i64 (getV s z c), .int .i64 (getE s z c)]) ∧ w' = w := by
  have k := place_call h hn z c
  unfold placeA at k
  unfold getV
  by_cases h0 : getE s z c = 0
  · rw [if_pos h0, h0] at k
    rw [if_pos h0, h0]
    obtain ⟨hu, c0, c1⟩ := getE_zero h0
    have hu' := used_of hu
    have cc := (h.pg z.toNat (by omega)).cs c.toNat (by omega)
    obtain ⟨Z, eZ⟩ : ∃ Z, (s.pg z.toNat).cell c.toNat = Z := ⟨_, rfl⟩
    obtain ⟨Y, eY⟩ : ∃ Y, (⟨g, z.toNat * 34 + 2 + c.toNat, none⟩ : Addr) = Y := ⟨_, rfl⟩
    rw [eY] at cc k
    rw [eZ] at cc ⊢
    clear eZ eY hu hu' h h0
    go_enter Try.func73, Try.ntmps73
    go_wp2_with (first | (go_at_call 82; refine k.mono ?_; rintro e W1 ⟨rfl, h1⟩; obtain rfl := h1.symm))
    go_ret2
    exact ⟨rfl, rfl⟩
  · rw [if_neg h0] at k
    rw [if_neg h0]
    obtain ⟨E, eE⟩ : ∃ E, getE s z c = E := ⟨_, rfl⟩
    rw [eE] at k h0 ⊢
    clear eE h
    have h0' : (E == 0) = false := by simp [h0]
    have h0'' : (E != 0) = true := by simp [h0]
    go_enter Try.func73, Try.ntmps73
    go_wp2_with (first | (go_at_call 82; refine k.mono ?_; rintro e W1 ⟨rfl, h1⟩; obtain rfl := h1.symm))
    go_ret2
    exact ⟨rfl, rfl⟩

theorem sizes_call {B : Nat} {w : World} {b g : Nat} {s : Pl} (h : PoolAt B w b g s) (hn : s.n ≤ 256) :
    Calls Try.prog 27 #[.pointer (some ⟨b, 0, none⟩)] w fun e w' => e = .returned (.tuple #[.int .i64 s.n, .int .i64 (freeTo s.pg s.n), .int .i64 s.aside]) ∧ ∃ m, w' = w.drewN m := by
  have t0 := h.t0
  have t1 := h.t1
  have k := fun m => free_call (h.drewN m) hn
  obtain ⟨F, eF⟩ : ∃ F, freeTo s.pg s.n = F := ⟨_, rfl⟩
  obtain ⟨A, eA⟩ : ∃ A, s.aside = A := ⟨_, rfl⟩
  obtain ⟨n, eN⟩ : ∃ n, s.n = n := ⟨_, rfl⟩
  rw [eF] at k ⊢
  rw [eA] at t1 ⊢
  rw [eN] at t0 hn ⊢
  clear eF eA eN h
  go_enter Try.func27, Try.ntmps27
  go_wp2
  go_quiet (first | (go_at_call 58; exact Calls.quiet_of_same (k _)))
  go_wp2
  go_ret3
  exact ⟨rfl, _, rfl⟩

end Go.Proofs.Ytfggkkhehaafcaa
