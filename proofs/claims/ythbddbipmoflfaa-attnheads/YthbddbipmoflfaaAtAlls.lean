/- What the program's All gives back, whatever comes: the contract of the call. -/
import Derived.Test.YthbddbipmoflfaaRows
import Derived.Test.YthbddbipmoflfaaView
import Derived.Test.YthbddbipmoflfaaOwn
import Derived.Test.YthbddbipmoflfaaMean
import Derived.Test.YthbddbipmoflfaaAtPlain
import Derived.Test.YthbddbipmoflfaaAtFits
import Derived.Test.YthbddbipmoflfaaAtFitsNo
import Derived.Test.YthbddbipmoflfaaAtHead
import Derived.Test.YthbddbipmoflfaaAtCut
import Derived.Test.YthbddbipmoflfaaAtAll
import Derived.WalkKit
import Derived.ProofKit
import Derived.OpenShut
import Derived.Below
import Derived.WalkLawsBesides
import Derived.Deep.QuietTactic
import Derived.BigQuiet
namespace Go.Proofs.Ythbddbipmoflfaa
open Go.ChangeShapes Go.WideShapes Go.ChangeAt Go.RowKit
set_option linter.unusedVariables false

/-- the error that All answers, 0 being none -/
def allE (N n m : Nat) (K V : Nat → List Int) (hd : Int) : Int := if hd < 1 then 20 else if N % hd.toNat = 0 ∧ fitB N n m K V = true then 0 else 21
/-- the row that All answers -/
def allR (q : List Int) (K V : Nat → List Int) (N n m : Nat) (hd : Int) : List Int := if allE N n m K V hd = 0 then allL q K V (N / hd.toNat) n hd.toNat else []

theorem allR_no {q : List Int} {K V : Nat → List Int} {N n m : Nat} {hd : Int} (h : allE N n m K V hd ≠ 0) : allR q K V N n m hd = [] := by unfold allR; rw [if_neg h]
theorem allE_low {N n m : Nat} {K V : Nat → List Int} {hd : Int} (h : hd < 1) : allE N n m K V hd = 20 := by unfold allE; rw [if_pos h]
theorem allE_no {N n m H : Nat} {K V : Nat → List Int} (h : N % H ≠ 0 ∨ fitB N n m K V = false) (hH : 0 < H) : allE N n m K V H = 21 := by
  unfold allE
  rw [if_neg (by omega), Int.toNat_natCast, if_neg]
  rintro ⟨h1, h2⟩
  rcases h with h | h
  · exact h h1
  · rw [h2] at h; cases h
theorem allE_yes {N n m H : Nat} {K V : Nat → List Int} (hH : 0 < H) (h1 : N % H = 0) (h2 : fitB N n m K V = true) : allE N n m K V H = 0 := by
  unfold allE
  rw [if_neg (by omega), Int.toNat_natCast, if_pos ⟨h1, h2⟩]
theorem allR_yes {q : List Int} {N n m H : Nat} {K V : Nat → List Int} (hH : 0 < H) (h1 : N % H = 0) (h2 : fitB N n m K V = true) : allR q K V N n m H = allL q K V (N / H) n H := by
  unfold allR
  rw [if_pos (allE_yes hH h1 h2), Int.toNat_natCast]

theorem all_low (a0 : Option Addr) (N c0 : Nat) (a1 : Option Addr) (n c1 : Nat) (a2 : Option Addr) (m c2 : Nat) (hd : Int) (w : World) (h : hd < 1) :
    Calls Try.prog 12 #[.slice a0 N c0, .slice a1 n c1, .slice a2 m c2, .int .i64 hd] w fun e w' => e = .returned (.tuple #[.slice none 0 0, .int .i64 20]) ∧ w' = w := by
  go_enter Try.func12, Try.ntmps12
  go_wp2_with fail
  go_ret2
  exact ⟨rfl, rfl⟩

theorem all_odd (a0 : Option Addr) (N c0 : Nat) (a1 : Option Addr) (n c1 : Nat) (a2 : Option Addr) (m c2 : Nat) (H : Nat) (w : World) (hH : 0 < H) (hm : N ≤ 9223372036854775807) (h : N % H ≠ 0) :
    Calls Try.prog 12 #[.slice a0 N c0, .slice a1 n c1, .slice a2 m c2, .int .i64 H] w fun e w' => e = .returned (.tuple #[.slice none 0 0, .int .i64 21]) ∧ w' = w := by
  have z : ((H : Int) == 0) = false := by simp; omega
  obtain ⟨r, er⟩ : ∃ r, N % H = r := ⟨_, rfl⟩
  have er' : (N : Int) % (H : Int) = (r : Int) := by rw [← er]; simp
  rw [er] at h
  clear er
  have zr : ((r : Int) == 0) = false := by simp; omega
  go_enter Try.func12, Try.ntmps12
  go_wp2_with fail
  go_ret2
  exact ⟨rfl, rfl⟩

theorem all_unfit (a0 : Option Addr) (N c0 : Nat) (a1 : Option Addr) (n c1 : Nat) (A : Nat → Option Addr) (C : Nat → Nat) (K : Nat → List Int) (a2 : Option Addr) (m c2 : Nat) (A' : Nat → Option Addr) (C' : Nat → Nat) (V : Nat → List Int) (H : Nat) (w : World)
    (hm : N ≤ 9223372036854775807) (h1 : Grid w a1 n A C K) (h2 : Grid w a2 m A' C' V) (hH : 0 < H) (hmod : N % H = 0) (hf : fitB N n m K V = false) :
    Calls Try.prog 12 #[.slice a0 N c0, .slice a1 n c1, .slice a2 m c2, .int .i64 H] w fun e w' => e = .returned (.tuple #[.slice none 0 0, .int .i64 21]) ∧ w' = w := by
  have kf := fits_no a0 N c0 a1 n c1 A C K a2 m c2 A' C' V w h1 h2 hf
  have z : ((H : Int) == 0) = false := by simp; omega
  have er' : (N : Int) % (H : Int) = 0 := by omega
  clear hmod
  go_enter Try.func12, Try.ntmps12
  go_wp2_with (go_at_call 19; refine kf.mono ?_; rintro e w' ⟨rfl, h⟩; obtain rfl := h.symm)
  go_ret2
  exact ⟨rfl, rfl⟩

theorem all_call (a0 : Option Addr) (N c0 : Nat) (q : List Int) (a1 : Option Addr) (n c1 : Nat) (A : Nat → Option Addr) (C : Nat → Nat) (K : Nat → List Int) (a2 : Option Addr) (m c2 : Nat) (A' : Nat → Option Addr) (C' : Nat → Nat) (V : Nat → List Int) (hd : Int) (w : World)
    (h0 : Reads .i64 w a0 N q) (l0 : N ≤ c0) (h1 : Grid w a1 n A C K) (hC : ∀ r, r < n → (K r).length ≤ C r) (h2 : Grid w a2 m A' C' V) (hC' : ∀ r, r < m → (V r).length ≤ C' r) (hb0 : N * 8 ≤ 140737488351232) (hb1 : n * 24 ≤ 140737488351232) :
    Calls Try.prog 12 #[.slice a0 N c0, .slice a1 n c1, .slice a2 m c2, .int .i64 hd] w fun e w' => (∃ a k c, e = .returned (.tuple #[.slice a k c, .int .i64 (allE N n m K V hd)]) ∧ Reads .i64 w' a k (allR q K V N n m hd)) ∧ Below w.heap.size w w' := by
  by_cases hl : hd < 1
  · have e := allE_low (N := N) (n := n) (m := m) (K := K) (V := V) hl
    have e' : allR q K V N n m hd = [] := allR_no (by rw [e]; decide)
    rw [e, e']
    exact (all_low _ _ _ _ _ _ _ _ _ _ _ hl).mono fun e w' ⟨he, hw⟩ => ⟨⟨none, 0, 0, he, Reads.nil _ _⟩, hw ▸ Below.refl _ _⟩
  · obtain ⟨H, rfl⟩ : ∃ H : Nat, hd = H := ⟨hd.toNat, by omega⟩
    have hH : 0 < H := by omega
    by_cases hmod : N % H = 0
    · cases hf : fitB N n m K V with
      | true =>
        have e := allE_yes hH hmod hf
        have e' := allR_yes (q := q) hH hmod hf
        rw [e, e']
        obtain ⟨hN, hn, rfl, hr⟩ := (fitB_iff ..).1 hf
        obtain ⟨x, rfl⟩ := h0.some_ hN
        exact (all_yes x N c0 H q a1 n c1 A C K a2 c2 A' C' V w h0 l0 h1 hC h2 hC' hH hN hn hmod hr (by omega) (by omega)).mono fun e w' ⟨⟨a, c, he, hr, _⟩, hw⟩ => ⟨⟨a, _, c, he, hr⟩, hw⟩
      | false =>
        have e := allE_no (Or.inr hf) hH (N := N)
        have e' : allR q K V N n m (H : Int) = [] := allR_no (by rw [e]; decide)
        rw [e, e']
        exact (all_unfit a0 N c0 a1 n c1 A C K a2 m c2 A' C' V H w h0.max h1 h2 hH hmod hf).mono fun e w' ⟨he, hw⟩ => ⟨⟨none, 0, 0, he, Reads.nil _ _⟩, hw ▸ Below.refl _ _⟩
    · have e := allE_no (n := n) (m := m) (K := K) (V := V) (Or.inl hmod) hH
      have e' : allR q K V N n m (H : Int) = [] := allR_no (by rw [e]; decide)
      rw [e, e']
      exact (all_odd a0 N c0 a1 n c1 a2 m c2 H w hH h0.max hmod).mono fun e w' ⟨he, hw⟩ => ⟨⟨none, 0, 0, he, Reads.nil _ _⟩, hw ▸ Below.refl _ _⟩

end Go.Proofs.Ythbddbipmoflfaa
