/- The document's Share, Drop and Put: their contracts. -/
import Derived.Test.YtfggkkhehaafcaaRows
import Derived.Test.YtfggkkhehaafcaaPages
import Derived.Test.YtfggkkhehaafcaaView
import Derived.Test.YtfggkkhehaafcaaOwn
import Derived.Test.YtfggkkhehaafcaaReadsP
import Derived.Test.YtfggkkhehaafcaaReadsQ
import Derived.Test.YtfggkkhehaafcaaRefPg
import Derived.Test.YtfggkkhehaafcaaRefRd
import Derived.Test.YtfggkkhehaafcaaLeast
import Derived.Test.YtfggkkhehaafcaaLays
import Derived.Test.YtfggkkhehaafcaaTurns
import Derived.WalkKit
import Derived.ProofKit
import Derived.OpenShut
import Derived.Below
import Derived.WalkLawsBesides
import Derived.Deep.QuietTactic
import Derived.BigQuiet
namespace Go.Proofs.Ytfggkkhehaafcaa
open Go.ChangeShapes Go.WideShapes Go.ChangeAt Go.RowKit
set_option linter.unusedVariables false

theorem refDrop_call {B m : Nat} {w : World} {b g : Nat} {s : Pl} {r : Nat → Nat} (h : RefAt B w b g s r) (hG : Good m s) (hm : m ≤ 1000000) (z : Int) :
    Calls Try.prog 38 #[.pointer (some ⟨b, 0, none⟩), .int .i64 z] w fun e w' => e = .returned (.int .i64 (shE s z)) ∧ RefAt B w' b g (drS s z) r ∧ Off B TR w w' := by
  have k := refUsed_call h hG.n1 hG.ow0 z
  have t0 := h.t0
  have n1 := hG.n1
  unfold shE drS
  have HP := hidden_ h
  by_cases hu : usedB s z = true
  · rw [hu] at k
    rw [if_pos hu, if_pos hu]
    obtain ⟨z0, z1, z2⟩ := used_of hu
    obtain ⟨i, rfl⟩ : ∃ i : Nat, z = (i : Int) := ⟨z.toNat, by omega⟩
    rw [Int.toNat_natCast] at z2 ⊢
    have hi : i < s.n := by omega
    have c1 := h.c1 i hi
    have o1 := h.row.open_ (i * 3 + 1)
    have g0 := hG.ow0 i hi
    have g1 := hG.ow1 i hi
    obtain ⟨hp2, ho2⟩ := h.setOw i hi z2 ((s.pg i).ow - 1)
    have t0' := hp2.t0
    have c1' := hp2.c1 i hi
    simp only [upd_same] at c1' t0'
    by_cases hd : (s.pg i).ow - 1 = 0
    · obtain ⟨hp3, ho3⟩ := hp2.setFree i hi (s.pg i).cell
      simp only [upd_upd] at hp3
      rw [show ({ tag := ⟨#[]⟩, ow := 0, cell := (s.pg i).cell } : Pg) = dropPg (s.pg i) by simp only [dropPg]; rw [if_pos hd]] at hp3
      have d0 := hp2.c0 i hi
      obtain ⟨v2, d2⟩ := hp2.row.some_ (i * 3 + 2) (by simp only; omega)
      have f0 := hp2.row.open_ (i * 3)
      have f1 := hp2.row.open_ (i * 3 + 1)
      have f2 := hp2.row.open_ (i * 3 + 2)
      simp only [upd_same] at d0
      have HF := hidden_ (And.intro hp3 (ho2.trans ho3))
      obtain ⟨D, eD⟩ : ∃ D, dropPg (s.pg i) = D := ⟨_, rfl⟩
      rw [eD] at HF ⊢
      obtain ⟨T, eT⟩ : ∃ T, (s.pg i).tag = T := ⟨_, rfl⟩
      rw [eT] at d0
      obtain ⟨O, eO⟩ : ∃ O, (s.pg i).ow = O := ⟨_, rfl⟩
      rw [eO] at c1 g0 g1 hd c1' t0' d0 d2 f0 f1 f2 HF
      obtain rfl : O = 1 := by omega
      obtain ⟨W3, eW⟩ : ∃ W3, w.setCell ⟨g, i * 3 + 1, none⟩ (.int .i64 (1 - 1)) = W3 := ⟨_, rfl⟩
      rw [eW] at c1' t0' d0 d2 f0 f1 f2 HF
      have eW' : w.setCell ⟨g, i * 3 + 1, none⟩ (.int .i64 0) = W3 := eW
      have c1'' : W3.cell? ⟨g, i * 3 + 1, none⟩ = some (.int .i64 0) := c1'
      obtain ⟨n, eN⟩ : ∃ n, s.n = n := ⟨_, rfl⟩
      rw [eN] at t0 n1 hi t0'
      obtain ⟨X, eX⟩ : ∃ X : Addr, X = ⟨g, 0, none⟩ := ⟨_, rfl⟩
      have eP : X.add (i * 3) = ⟨g, i * 3, none⟩ := by rw [eX, add_zero_at]
      rw [← eX] at t0 t0'
      clear eO hu h z0 z1 z2 hG hp2 ho2 hp3 ho3 hd eT eD c1' eW eN eX HP
      go_enter Try.func38, Try.ntmps38
      go_wp2_with (first | (go_at_call 68; refine k.mono ?_; rintro e W1 ⟨rfl, h1⟩; obtain rfl := h1.symm))
      go_ret
      exact ⟨rfl, HF.out⟩
    · rw [show ({ s.pg i with ow := (s.pg i).ow - 1 } : Pg) = dropPg (s.pg i) by simp only [dropPg]; rw [if_neg hd]] at hp2
      have HF := hidden_ (And.intro hp2 ho2)
      obtain ⟨D, eD⟩ : ∃ D, dropPg (s.pg i) = D := ⟨_, rfl⟩
      rw [eD] at HF ⊢
      obtain ⟨O, eO⟩ : ∃ O, (s.pg i).ow = O := ⟨_, rfl⟩
      rw [eO] at c1 g0 g1 hd c1' t0' HF
      have hd' : (O - 1 == 0) = false := by simp [hd]
      obtain ⟨W3, eW⟩ : ∃ W3, w.setCell ⟨g, i * 3 + 1, none⟩ (.int .i64 (O - 1)) = W3 := ⟨_, rfl⟩
      rw [eW] at c1' t0' HF
      obtain ⟨n, eN⟩ : ∃ n, s.n = n := ⟨_, rfl⟩
      rw [eN] at t0 n1 hi t0'
      obtain ⟨X, eX⟩ : ∃ X : Addr, X = ⟨g, 0, none⟩ := ⟨_, rfl⟩
      have eP : X.add (i * 3) = ⟨g, i * 3, none⟩ := by rw [eX, add_zero_at]
      rw [← eX] at t0 t0'
      clear eO hu h z0 z1 z2 hG hp2 ho2 eD eN eX HP
      go_enter Try.func38, Try.ntmps38
      go_wp2_with (first | (go_at_call 68; refine k.mono ?_; rintro e W1 ⟨rfl, h1⟩; obtain rfl := h1.symm))
      go_ret
      exact ⟨rfl, HF.out⟩
  · have hu' : usedB s z = false := by simpa using hu
    rw [hu'] at k
    rw [if_neg hu, if_neg hu]
    clear hu hu' h hG t0
    go_enter Try.func38, Try.ntmps38
    go_wp2_with (first | (go_at_call 68; refine k.mono ?_; rintro e W1 ⟨rfl, h1⟩; obtain rfl := h1.symm))
    go_ret
    exact ⟨rfl, HP.out, Off.refl _ _ _⟩

theorem refPut_call {B m : Nat} {w : World} {b g : Nat} {s : Pl} {r : Nat → Nat} (h : RefAt B w b g s r) (hG : Good m s) (z c v : Int) :
    Calls Try.prog 80 #[.pointer (some ⟨b, 0, none⟩), .int .i64 z, .int .i64 c, .int .i64 v] w fun e w' => e = .returned (.int .i64 (getE s z c)) ∧ RefAt B w' b g (putS s z c v) r ∧ Off B TR w w' := by
  have k := refUsed_call h hG.n1 hG.ow0 z
  have t0 := h.t0
  have n1 := hG.n1
  unfold putS getE
  have HP := hidden_ h
  by_cases hu : usedB s z = true
  · rw [hu] at k
    simp only [hu, if_true]
    by_cases h0 : c < 0
    · simp only [if_neg (show ¬ (0 ≤ c ∧ c < 32) by omega)]
      rw [if_neg (by decide)]
      clear hu h hG t0
      go_enter Try.func80, Try.ntmps80
      go_wp2_with (first | (go_at_call 68; refine k.mono ?_; rintro e W1 ⟨rfl, h1⟩; obtain rfl := h1.symm))
      go_ret
      exact ⟨rfl, HP.out, Off.refl _ _ _⟩
    · by_cases h1 : 32 ≤ c
      · simp only [if_neg (show ¬ (0 ≤ c ∧ c < 32) by omega)]
        rw [if_neg (by decide)]
        clear hu h hG t0
        go_enter Try.func80, Try.ntmps80
        go_wp2_with (first | (go_at_call 68; refine k.mono ?_; rintro e W1 ⟨rfl, h1⟩; obtain rfl := h1.symm))
        go_ret
        exact ⟨rfl, HP.out, Off.refl _ _ _⟩
      · simp only [if_pos (show 0 ≤ c ∧ c < 32 by omega)]
        rw [if_pos trivial]
        obtain ⟨z0, z1, z2⟩ := used_of hu
        obtain ⟨i, rfl⟩ : ∃ i : Nat, z = (i : Int) := ⟨z.toNat, by omega⟩
        obtain ⟨j, rfl⟩ : ∃ j : Nat, c = (j : Int) := ⟨c.toNat, by omega⟩
        rw [Int.toNat_natCast] at z2 ⊢
        rw [Int.toNat_natCast]
        have hi : i < s.n := by omega
        have hj : j < 32 := by omega
        have c2 := h.c2 i hi z2
        have cc := h.cs i hi z2 j hj
        have oo := (h.cr i hi z2).1.open_ j
        have hf := h.setVal i hi z2 j hj v
        obtain ⟨Z, eZ⟩ : ∃ Z, (s.pg i).cell j = Z := ⟨_, rfl⟩
        rw [eZ] at cc
        obtain ⟨Y, eY⟩ : ∃ Y : Addr, Y = ⟨r i, 0, none⟩ := ⟨_, rfl⟩
        have eQ : (⟨r i, j, none⟩ : Addr) = Y.add j := by rw [eY, add_zero_at]
        rw [eQ] at cc oo hf
        rw [← eY] at c2
        obtain ⟨n, eN⟩ : ∃ n, s.n = n := ⟨_, rfl⟩
        rw [eN] at t0 n1 hi
        obtain ⟨X, eX⟩ : ∃ X : Addr, X = ⟨g, 0, none⟩ := ⟨_, rfl⟩
        have eP : X.add (i * 3) = ⟨g, i * 3, none⟩ := by rw [eX, add_zero_at]
        rw [← eX] at t0
        have HF := hidden_ hf
        clear eZ hu h z0 z1 z2 hG eN eX eY eQ hf HP
        go_enter Try.func80, Try.ntmps80
        go_wp2_with (first | (go_at_call 68; refine k.mono ?_; rintro e W1 ⟨rfl, h1⟩; obtain rfl := h1.symm))
        go_ret
        exact ⟨rfl, HF.out⟩
  · have hu' : usedB s z = false := by simpa using hu
    rw [hu'] at k
    simp only [hu']
    rw [if_neg (by simp), if_neg (by simp)]
    clear hu hu' h hG t0
    go_enter Try.func80, Try.ntmps80
    go_wp2_with (first | (go_at_call 68; refine k.mono ?_; rintro e W1 ⟨rfl, h1⟩; obtain rfl := h1.symm))
    go_ret
    exact ⟨rfl, HP.out, Off.refl _ _ _⟩

end Go.Proofs.Ytfggkkhehaafcaa
