/- The program's Draw, Share, Drop and Put: their contracts. -/
import Derived.Test.YtfggkkhehaafcaaRows
import Derived.Test.YtfggkkhehaafcaaPages
import Derived.Test.YtfggkkhehaafcaaView
import Derived.Test.YtfggkkhehaafcaaOwn
import Derived.Test.YtfggkkhehaafcaaReadsP
import Derived.Test.YtfggkkhehaafcaaReadsQ
import Derived.Test.YtfggkkhehaafcaaLeast
import Derived.Test.YtfggkkhehaafcaaLays
import Derived.WalkKit
import Derived.ProofKit
import Derived.OpenShut
import Derived.Below
import Derived.WalkLawsBesides
import Derived.Deep.QuietTactic
import Derived.BigQuiet
namespace Go.Proofs.Ytfggkkhehaafcaa
open Go.ChangeShapes Go.WideShapes Go.ChangeAt Go.RowKit
set_option linter.unusedVariables false

theorem upd_upd {α : Type} (f : Nat → α) (i : Nat) (u v : α) : upd (upd f i u) i v = upd f i v := by
  funext j
  simp only [upd]
  split <;> rfl

theorem drop_call {B m : Nat} {w : World} {b g : Nat} {s : Pl} (h : PoolAt B w b g s) (hG : Good m s) (hm : m ≤ 1000000) (z : Int) :
    Calls Try.prog 37 #[.pointer (some ⟨b, 0, none⟩), .int .i64 z] w fun e w' => e = .returned (.int .i64 (shE s z)) ∧ PoolAt B w' b g (drS s z) ∧ Off B TP w w' := by
  have k := owned_call h hG.n1 z
  unfold ownA at k
  unfold shE drS
  have HP := hidden_ h
  by_cases hu : usedB s z = true
  · rw [if_pos hu] at k ⊢
    rw [if_pos hu]
    obtain ⟨z0, z1, z2⟩ := used_of hu
    have c1 := (h.pg z.toNat (by omega)).c1
    have o1 := h.row.open_ (z.toNat * 34 + 1)
    have hz : z.toNat < s.n := by omega
    have g0 := hG.ow0 z.toNat (by omega)
    have g1 := hG.ow1 z.toNat (by omega)
    obtain ⟨hp2, ho2⟩ := h.setOw z.toNat hz ((s.pg z.toNat).ow - 1)
    have c1' := (hp2.pg z.toNat hz).c1
    have c0' := (hp2.pg z.toNat hz).c0
    have o0' := hp2.row.open_ (z.toNat * 34)
    simp only [upd_same] at c1' c0'
    by_cases hd : (s.pg z.toNat).ow - 1 = 0
    · have hp3 := hp2.setTag z.toNat hz ⟨#[]⟩
      simp only [upd_same, upd_upd] at hp3
      rw [show ({ tag := ⟨#[]⟩, ow := (s.pg z.toNat).ow - 1, cell := (s.pg z.toNat).cell } : Pg) = dropPg (s.pg z.toNat) by simp only [dropPg]; rw [if_pos hd, hd]] at hp3
      have HF := hidden_ (And.intro hp3.1 (ho2.trans hp3.2))
      obtain ⟨O, eO⟩ : ∃ O, (s.pg z.toNat).ow = O := ⟨_, rfl⟩
      rw [eO] at c1 g0 g1 hd c1' c0' o0' HF
      obtain ⟨T, eT⟩ : ∃ T, (s.pg z.toNat).tag = T := ⟨_, rfl⟩
      rw [eT] at c0'
      obtain rfl : O = 1 := by omega
      obtain ⟨W3, eW⟩ : ∃ W3, w.setCell ⟨g, z.toNat * 34 + 1, none⟩ (.int .i64 (1 - 1)) = W3 := ⟨_, rfl⟩
      rw [eW] at c1' c0' o0' HF
      have eW' : w.setCell ⟨g, z.toNat * 34 + 1, none⟩ (.int .i64 0) = W3 := eW
      have c1'' : W3.cell? ⟨g, z.toNat * 34 + 1, none⟩ = some (.int .i64 0) := c1'
      obtain ⟨D, eD⟩ : ∃ D, dropPg (s.pg z.toNat) = D := ⟨_, rfl⟩
      rw [eD] at HF ⊢
      clear eO hu h z0 z1 z2 hG hp2 ho2 hp3 hd eT eD c1' eW
      go_enter Try.func37, Try.ntmps37
      go_wp2_with (first | (go_at_call 69; refine k.mono ?_; rintro e W1 ⟨rfl, h1⟩; obtain rfl := h1.symm))
      go_ret
      exact ⟨rfl, HF.out⟩
    · rw [show ({ s.pg z.toNat with ow := (s.pg z.toNat).ow - 1 } : Pg) = dropPg (s.pg z.toNat) by simp only [dropPg]; rw [if_neg hd]] at hp2
      have HF := hidden_ (And.intro hp2 ho2)
      obtain ⟨D, eD⟩ : ∃ D, dropPg (s.pg z.toNat) = D := ⟨_, rfl⟩
      rw [eD] at HF ⊢
      obtain ⟨O, eO⟩ : ∃ O, (s.pg z.toNat).ow = O := ⟨_, rfl⟩
      rw [eO] at c1 g0 g1 hd c1' c0' o0' HF
      have hd' : (O - 1 == 0) = false := by simp [hd]
      obtain ⟨W3, eW⟩ : ∃ W3, w.setCell ⟨g, z.toNat * 34 + 1, none⟩ (.int .i64 (O - 1)) = W3 := ⟨_, rfl⟩
      rw [eW] at c1' c0' o0' HF
      clear eO hu h z0 z1 z2 hG hp2 ho2 eD c0'
      go_enter Try.func37, Try.ntmps37
      go_wp2_with (first | (go_at_call 69; refine k.mono ?_; rintro e W1 ⟨rfl, h1⟩; obtain rfl := h1.symm))
      go_ret
      exact ⟨rfl, HF.out⟩
  · rw [if_neg hu] at k ⊢
    rw [if_neg hu]
    clear hu h hG
    go_enter Try.func37, Try.ntmps37
    go_wp2_with (first | (go_at_call 69; refine k.mono ?_; rintro e W1 ⟨rfl, h1⟩; obtain rfl := h1.symm))
    go_ret
    exact ⟨rfl, HP.out, Off.refl _ _ _⟩

theorem put_call {B m : Nat} {w : World} {b g : Nat} {s : Pl} (h : PoolAt B w b g s) (hG : Good m s) (z c v : Int) :
    Calls Try.prog 83 #[.pointer (some ⟨b, 0, none⟩), .int .i64 z, .int .i64 c, .int .i64 v] w fun e w' => e = .returned (.int .i64 (getE s z c)) ∧ PoolAt B w' b g (putS s z c v) ∧ Off B TP w w' := by
  have k := place_call h hG.n1 z c
  unfold placeA at k
  unfold putS
  have HP := hidden_ h
  by_cases h0 : getE s z c = 0
  · rw [if_pos h0, h0] at k
    rw [if_pos h0, h0]
    obtain ⟨hu, c0, c1⟩ := getE_zero h0
    have hu' := used_of hu
    have cc := (h.pg z.toNat (by omega)).cs c.toNat (by omega)
    have oo := h.row.open_ (z.toNat * 34 + 2 + c.toNat)
    have HF := hidden_ (h.setVal z.toNat (by omega) c.toNat (by omega) v)
    obtain ⟨Y, eY⟩ : ∃ Y, (⟨g, z.toNat * 34 + 2 + c.toNat, none⟩ : Addr) = Y := ⟨_, rfl⟩
    rw [eY] at cc k oo HF
    clear eY hu hu' h h0 hG
    go_enter Try.func83, Try.ntmps83
    go_wp2_with (first | (go_at_call 82; refine k.mono ?_; rintro e W1 ⟨rfl, h1⟩; obtain rfl := h1.symm))
    go_ret
    exact ⟨rfl, HF.out⟩
  · rw [if_neg h0] at k
    rw [if_neg h0]
    obtain ⟨E, eE⟩ : ∃ E, getE s z c = E := ⟨_, rfl⟩
    rw [eE] at k h0 ⊢
    clear eE h hG
    have h0' : (E == 0) = false := by simp [h0]
    have h0'' : (E != 0) = true := by simp [h0]
    go_enter Try.func83, Try.ntmps83
    go_wp2_with (first | (go_at_call 82; refine k.mono ?_; rintro e W1 ⟨rfl, h1⟩; obtain rfl := h1.symm))
    go_ret
    exact ⟨rfl, HP.out, Off.refl _ _ _⟩

end Go.Proofs.Ytfggkkhehaafcaa
