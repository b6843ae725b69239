/- The document's functions that only read a pool: their contracts. -/
import Derived.Test.YtfggkkhehaafcaaRows
import Derived.Test.YtfggkkhehaafcaaPages
import Derived.Test.YtfggkkhehaafcaaReadsP
import Derived.Test.YtfggkkhehaafcaaReadsQ
import Derived.Test.YtfggkkhehaafcaaRefPg
import Derived.WalkKit
import Derived.ProofKit
import Derived.OpenShut
import Derived.Below
import Derived.WalkLawsBesides
import Derived.Deep.QuietTactic
import Derived.BigQuiet
namespace Go.Proofs.Ytfggkkhehaafcaa
open Go.ChangeShapes Go.WideShapes Go.ChangeAt Go.RowKit
set_option linter.unusedVariables false

theorem refUsed_call {B : Nat} {w : World} {b g : Nat} {s : Pl} {r : Nat → Nat} (h : RefAt B w b g s r) (hn : s.n ≤ 256) (hw : ∀ i, i < s.n → 0 ≤ (s.pg i).ow) (z : Int) :
    Calls Try.prog 68 #[.pointer (some ⟨b, 0, none⟩), .int .i64 z] w fun e w' => e = .returned (.bool (usedB s z)) ∧ w' = w := by
  have t0 := h.t0
  have Hp := hidden_ h.c1
  have hu := hidden_ (show usedB s z = decide (0 ≤ z ∧ z < (s.n : Int) ∧ (s.pg z.toNat).ow ≠ 0) from rfl)
  obtain ⟨U, eU⟩ : ∃ U, usedB s z = U := ⟨_, rfl⟩
  rw [eU] at hu ⊢
  clear eU h
  obtain ⟨n, eN⟩ : ∃ n, s.n = n := ⟨_, rfl⟩
  have HW := hidden_ hw
  rw [eN] at t0 hn
  have HN := hidden_ eN
  clear eN hw
  obtain ⟨X, eX⟩ : ∃ X : Addr, X = ⟨g, 0, none⟩ := ⟨_, rfl⟩
  rw [← eX] at t0
  have HX := hidden_ eX
  clear eX
  by_cases h0 : z < 0
  · have hU : U = false := by rw [hu.out]; simp; omega
    subst hU
    clear hu
    go_enter Try.func68, Try.ntmps68
    go_wp2
    go_ret
    exact ⟨rfl, rfl⟩
  · by_cases h1 : (n : Int) ≤ z
    · have hU : U = false := by rw [hu.out, HN.out]; simp; omega
      subst hU
      clear hu
      go_enter Try.func68, Try.ntmps68
      go_wp2
      go_ret
      exact ⟨rfl, rfl⟩
    · obtain ⟨i, rfl⟩ : ∃ i : Nat, z = (i : Int) := ⟨z.toNat, by omega⟩
      have hi : i < n := by omega
      have c1 := Hp.out i (by rw [HN.out]; exact hi)
      have w0 := HW.out i (by rw [HN.out]; exact hi)
      have eP : X.add (i * 3) = ⟨g, i * 3, none⟩ := by rw [HX.out, add_zero_at]
      have hU := hidden_ hu.out
      clear hu
      obtain ⟨O, eO⟩ : ∃ O, (s.pg i).ow = O := ⟨_, rfl⟩
      rw [eO] at c1 w0
      by_cases hO : O = 0
      · have hU' : U = false := by rw [hU.out]; simp [eO, hO]
        clear hU
        subst hO hU'
        clear eO
        go_enter Try.func68, Try.ntmps68
        go_wp2
        go_ret
        exact ⟨rfl, rfl⟩
      · have hU' : U = true := by rw [hU.out]; simp [eO, hO, HN.out, hi]
        have hO' : 0 < O := by omega
        clear hU
        subst hU'
        clear eO
        go_enter Try.func68, Try.ntmps68
        go_wp2
        go_ret
        exact ⟨rfl, rfl⟩

theorem refFree_call {B : Nat} {w : World} {b g : Nat} {s : Pl} {r : Nat → Nat} (h : RefAt B w b g s r) (hn : s.n ≤ 256) :
    Calls Try.prog 50 #[.pointer (some ⟨b, 0, none⟩)] w fun e w' => e = .returned (.int .i64 (freeTo s.pg s.n)) ∧ w' = w := by
  obtain ⟨n, p, A⟩ := s
  have t0 := h.t0
  have Hf := hidden_ fun i => freeTo_le p i
  have Hp := hidden_ h.c1
  clear h
  simp only at t0 hn Hp ⊢
  obtain ⟨X, eX⟩ : ∃ X : Addr, X = ⟨g, 0, none⟩ := ⟨_, rfl⟩
  rw [← eX] at t0
  have HX := hidden_ eX
  clear eX
  go_enter Try.func50, Try.ntmps50
  go_wp2
  go_loopw [3, 4] (fun v3 i wr => ∃ k : Nat, k ≤ n ∧ i = .int .i64 k ∧ v3 = .int .i64 (freeTo p k) ∧ wr = w) (fun _ i _ => n - (intOf i).toNat)
  case atStart => exact ⟨0, Nat.zero_le _, rfl, rfl, rfl⟩
  case round =>
    obtain ⟨k, hk, rfl, rfl, hw⟩ := hrel
    subst hw
    have f1 := Hf.out k
    obtain ⟨F, eF⟩ : ∃ F, freeTo p k = F := ⟨_, rfl⟩
    rw [eF] at f1 ⊢
    by_cases hlt : k < n
    · have c1 := Hp.out k hlt
      have eP : X.add (k * 3) = ⟨g, k * 3, none⟩ := by rw [HX.out, add_zero_at]
      obtain ⟨O, eO⟩ : ∃ O, (p k).ow = O := ⟨_, rfl⟩
      rw [eO] at c1
      by_cases hO : O = 0
      · subst hO
        have HF := hidden_ (show freeTo p (k + 1) = F + 1 by simp only [freeTo]; rw [if_pos eO, eF])
        clear eO eF
        go_wp2
        go_roundw
        case rel => exact ⟨k + 1, by omega, by go_num, by rw [HF.out]; go_num, trivial⟩
        case measure => simp [intOf]; omega
      · have HF := hidden_ (show freeTo p (k + 1) = F by simp only [freeTo]; rw [if_neg (by rw [eO]; exact hO), eF]; rfl)
        clear eO eF
        go_wp2
        go_roundw
        case rel => exact ⟨k + 1, by omega, by go_num, by rw [HF.out], trivial⟩
        case measure => simp [intOf]; omega
    · have e : k = n := by omega
      subst e
      have HF := hidden_ eF
      clear eF
      go_wp2
      go_ret
      exact ⟨by rw [HF.out]; rfl, rfl⟩

theorem refOwners_call {B : Nat} {w : World} {b g : Nat} {s : Pl} {r : Nat → Nat} (h : RefAt B w b g s r) (hn : s.n ≤ 256) (hw : ∀ i, i < s.n → 0 ≤ (s.pg i).ow) (z : Int) :
    Calls Try.prog 52 #[.pointer (some ⟨b, 0, none⟩), .int .i64 z] w fun e w' => e = .returned (.int .i64 (owZ s z)) ∧ w' = w := by
  have k := refUsed_call h hn hw z
  have t0 := h.t0
  unfold owZ
  by_cases hu : usedB s z = true
  · rw [hu] at k
    rw [if_pos hu]
    obtain ⟨z0, z1, z2⟩ := used_of hu
    obtain ⟨i, rfl⟩ : ∃ i : Nat, z = (i : Int) := ⟨z.toNat, by omega⟩
    rw [Int.toNat_natCast] at z2 ⊢
    have hi : i < s.n := by omega
    have c1 := h.c1 i hi
    obtain ⟨O, eO⟩ : ∃ O, (s.pg i).ow = O := ⟨_, rfl⟩
    rw [eO] at c1 ⊢
    obtain ⟨n, eN⟩ : ∃ n, s.n = n := ⟨_, rfl⟩
    rw [eN] at t0 hn hi
    obtain ⟨X, eX⟩ : ∃ X : Addr, X = ⟨g, 0, none⟩ := ⟨_, rfl⟩
    have eP : X.add (i * 3) = ⟨g, i * 3, none⟩ := by rw [eX, add_zero_at]
    rw [← eX] at t0
    clear eO hu h z0 z1 z2 hw eN eX
    go_enter Try.func52, Try.ntmps52
    go_wp2_with (first | (go_at_call 68; refine k.mono ?_; rintro e W1 ⟨rfl, h1⟩; obtain rfl := h1.symm))
    go_ret
    exact ⟨rfl, rfl⟩
  · rw [if_neg hu]
    have hu' : usedB s z = false := by simpa using hu
    rw [hu'] at k
    clear hu hu' h hw t0
    go_enter Try.func52, Try.ntmps52
    go_wp2_with (first | (go_at_call 68; refine k.mono ?_; rintro e W1 ⟨rfl, h1⟩; obtain rfl := h1.symm))
    go_ret
    exact ⟨rfl, rfl⟩

theorem refTag_call {B : Nat} {w : World} {b g : Nat} {s : Pl} {r : Nat → Nat} (h : RefAt B w b g s r) (hn : s.n ≤ 256) (hw : ∀ i, i < s.n → 0 ≤ (s.pg i).ow) (z : Int) :
    Calls Try.prog 36 #[.pointer (some ⟨b, 0, none⟩), .int .i64 z] w fun e w' => e = .returned (.string (tagZ s z)) ∧ w' = w := by
  have k := refUsed_call h hn hw z
  have t0 := h.t0
  unfold tagZ
  by_cases hu : usedB s z = true
  · rw [hu] at k
    rw [if_pos hu]
    obtain ⟨z0, z1, z2⟩ := used_of hu
    obtain ⟨i, rfl⟩ : ∃ i : Nat, z = (i : Int) := ⟨z.toNat, by omega⟩
    rw [Int.toNat_natCast] at z2 ⊢
    have hi : i < s.n := by omega
    have c1 := h.c0 i hi
    obtain ⟨O, eO⟩ : ∃ O, (s.pg i).tag = O := ⟨_, rfl⟩
    rw [eO] at c1 ⊢
    obtain ⟨n, eN⟩ : ∃ n, s.n = n := ⟨_, rfl⟩
    rw [eN] at t0 hn hi
    obtain ⟨X, eX⟩ : ∃ X : Addr, X = ⟨g, 0, none⟩ := ⟨_, rfl⟩
    have eP : X.add (i * 3) = ⟨g, i * 3, none⟩ := by rw [eX, add_zero_at]
    rw [← eX] at t0
    clear eO hu h z0 z1 z2 hw eN eX
    go_enter Try.func36, Try.ntmps36
    go_wp2_with (first | (go_at_call 68; refine k.mono ?_; rintro e W1 ⟨rfl, h1⟩; obtain rfl := h1.symm))
    go_ret
    exact ⟨rfl, rfl⟩
  · rw [if_neg hu]
    have hu' : usedB s z = false := by simpa using hu
    rw [hu'] at k
    clear hu hu' h hw t0
    go_enter Try.func36, Try.ntmps36
    go_wp2_with (first | (go_at_call 68; refine k.mono ?_; rintro e W1 ⟨rfl, h1⟩; obtain rfl := h1.symm))
    go_ret
    exact ⟨rfl, rfl⟩

theorem refGet_call {B : Nat} {w : World} {b g : Nat} {s : Pl} {r : Nat → Nat} (h : RefAt B w b g s r) (hn : s.n ≤ 256) (hw : ∀ i, i < s.n → 0 ≤ (s.pg i).ow) (z c : Int) :
    Calls Try.prog 74 #[.pointer (some ⟨b, 0, none⟩), .int .i64 z, .int .i64 c] w fun e w' => e = .returned (.tuple #[.int .i64 (getV s z c), .int .i64 (getE s z c)]) ∧ w' = w := by
  have k := refUsed_call h hn hw z
  have t0 := h.t0
  unfold getV getE
  by_cases hu : usedB s z = true
  · rw [hu] at k
    simp only [hu, if_true]
    by_cases h0 : c < 0
    · simp only [if_neg (show ¬ (0 ≤ c ∧ c < 32) by omega)]
      rw [if_neg (by decide)]
      clear hu h hw t0
      go_enter Try.func74, Try.ntmps74
      go_wp2_with (first | (go_at_call 68; refine k.mono ?_; rintro e W1 ⟨rfl, h1⟩; obtain rfl := h1.symm))
      go_ret2
      exact ⟨rfl, rfl⟩
    · by_cases h1 : 32 ≤ c
      · simp only [if_neg (show ¬ (0 ≤ c ∧ c < 32) by omega)]
        rw [if_neg (by decide)]
        clear hu h hw t0
        go_enter Try.func74, Try.ntmps74
        go_wp2_with (first | (go_at_call 68; refine k.mono ?_; rintro e W1 ⟨rfl, h1⟩; obtain rfl := h1.symm))
        go_ret2
        exact ⟨rfl, rfl⟩
      · simp only [if_pos (show 0 ≤ c ∧ c < 32 by omega)]
        rw [if_pos trivial]
        obtain ⟨z0, z1, z2⟩ := used_of hu
        obtain ⟨i, rfl⟩ : ∃ i : Nat, z = (i : Int) := ⟨z.toNat, by omega⟩
        obtain ⟨j, rfl⟩ : ∃ j : Nat, c = (j : Int) := ⟨c.toNat, by omega⟩
        rw [Int.toNat_natCast] at z2 ⊢
        rw [Int.toNat_natCast]
        have hi : i < s.n := by omega
        have hj : j < 32 := by omega
        have c2 := h.c2 i hi z2
        have cc := h.cs i hi z2 j hj
        obtain ⟨Z, eZ⟩ : ∃ Z, (s.pg i).cell j = Z := ⟨_, rfl⟩
        rw [eZ] at cc ⊢
        obtain ⟨Y, eY⟩ : ∃ Y : Addr, Y = ⟨r i, 0, none⟩ := ⟨_, rfl⟩
        have cc' : w.cell? (Y.add j) = some (.int .i64 Z) := by rw [eY, add_zero_at]; exact cc
        rw [← eY] at c2
        obtain ⟨n, eN⟩ : ∃ n, s.n = n := ⟨_, rfl⟩
        rw [eN] at t0 hn hi
        obtain ⟨X, eX⟩ : ∃ X : Addr, X = ⟨g, 0, none⟩ := ⟨_, rfl⟩
        have eP : X.add (i * 3) = ⟨g, i * 3, none⟩ := by rw [eX, add_zero_at]
        rw [← eX] at t0
        clear eZ hu h z0 z1 z2 hw eN eX eY cc
        go_enter Try.func74, Try.ntmps74
        go_wp2_with (first | (go_at_call 68; refine k.mono ?_; rintro e W1 ⟨rfl, h1⟩; obtain rfl := h1.symm))
        go_ret2
        exact ⟨rfl, rfl⟩
  · have hu' : usedB s z = false := by simpa using hu
    rw [hu'] at k
    simp only [hu']
    rw [if_neg (by simp), if_neg (by simp)]
    clear hu hu' h hw t0
    go_enter Try.func74, Try.ntmps74
    go_wp2_with (first | (go_at_call 68; refine k.mono ?_; rintro e W1 ⟨rfl, h1⟩; obtain rfl := h1.symm))
    go_ret2
    exact ⟨rfl, rfl⟩

end Go.Proofs.Ytfggkkhehaafcaa
