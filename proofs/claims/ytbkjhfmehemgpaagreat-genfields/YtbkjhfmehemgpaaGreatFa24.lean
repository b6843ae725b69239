/- Texts put together: DrDrChoose. -/
import Derived.Test.YtbkjhfmehemgpaaGreatRows
import Derived.Test.YtbkjhfmehemgpaaGreatFa20
import Derived.Test.YtbkjhfmehemgpaaGreatFa19
namespace Go.Proofs.YtbkjhfmehemgpaaGreat
set_option maxRecDepth 20000
set_option maxHeartbeats 16000000
open Go.ChangeShapes Go.WideShapes Go.ChangeAt Go.RowKit
set_option linter.unusedVariables false
set_option linter.unusedSimpArgs false
section
theorem choose_max {xs:List Int} {k h u:Int} (hh:h<1∨k<2):chooseZ xs k h u=maxZ xs:=by
 unfold chooseZ;rw[if_pos hh]
theorem choose_none {xs:List Int} {k h u:Int} {m:Nat} (hm:m=min k.toNat xs.length) (hh:¬(h<1∨k<2)) (hs:upTo (shZ xs h m) m=0):chooseZ xs k h u=maxZ xs:=by
 subst hm
 unfold chooseZ manyZ;rw[if_neg hh,if_pos hs]
theorem choose_some {xs:List Int} {k h u:Int} {m:Nat} (hm:m=min k.toNat xs.length) (hh:¬(h<1∨k<2)) (hs:¬upTo (shZ xs h m) m=0):chooseZ xs k h u=((places xs).getD (seatZ (shZ xs h m) m (u % upTo (shZ xs h m) m)) 0:Nat):=by
 subst hm
 unfold chooseZ manyZ;rw[if_neg hh,if_neg hs]
theorem choose_call (a0 : Option Addr) (n c0 : Nat) (xs : List Int) (k h u : Int) (w : World) (h0 : Reads .i64 w a0 n xs) (hn : n ≤ 1000000) (wh : (Lit.int .i64 h).wf = true) (wu : (Lit.int .u64 u).wf = true) :
    Calls Tryz.prog 88 #[.slice a0 n c0, .int .i64 k, .int .i64 h, .int .u64 u] w fun e w' => e = .returned (.int .i64 (chooseZ xs k h u)) ∧ Below w.heap.size w w' := by
  by_cases hk : h < 1 ∨ k < 2
  · rw [choose_max hk]
    have km := max_call a0 n c0 xs w h0
    obtain ⟨M, eM⟩ : ∃ M, maxZ xs = M := ⟨_, rfl⟩
    rw [eM] at km ⊢
    clear eM
    by_cases hh : h < 1
    · clear hk
      go_enter Tryz.func88, Tryz.ntmps88
      go_wp2_with (go_at_call 86; refine km.mono ?_; rintro e w' ⟨rfl, hb⟩)
      all_goals (try (exfalso; omega))
      all_goals (go_ret; exact ⟨rfl, hb⟩)
    · have hk2 : k < 2 := by omega
      clear hk
      go_enter Tryz.func88, Tryz.ntmps88
      go_wp2_with (go_at_call 86; refine km.mono ?_; rintro e w' ⟨rfl, hb⟩)
      all_goals (try (exfalso; omega))
      all_goals (go_ret; exact ⟨rfl, hb⟩)
  · have hl := h0.len
    obtain ⟨m, hm⟩ : ∃ m, m = min k.toNat n := ⟨_, rfl⟩
    have hmx : m = min k.toNat xs.length := by rw [hl]; exact hm
    have hmn : m ≤ n := by omega
    have kt := top_call a0 n c0 xs k w h0 (by omega)
    rw [← hm] at kt
    have h1 : 1 ≤ h := by omega
    have h2 : 2 ≤ k := by omega
    have bu := bounds_u64 wu
    have hf := soft_fair (coolZ xs h m) m
    have hpl : ∀ j, j < m → (pickZ xs k).getD j 0 = ((places xs).getD j 0 : Nat) ∧ (places xs).getD j 0 < n := fun j hj =>
      ⟨topZ_at xs k j (by omega), by rw [← hl]; exact (places_ordered xs).lt (by omega)⟩
    by_cases hs : upTo (shZ xs h m) m = 0
    · rw [choose_none hmx hk hs]
      have km := fun (W : World) (hW : Reads .i64 W a0 n xs) => max_call a0 n c0 xs W hW
      obtain ⟨M, eM⟩ : ∃ M, maxZ xs = M := ⟨_, rfl⟩
      rw [eM] at km ⊢
      have Pl : Hid (∀ j, j < m → (pickZ xs k).getD j 0 = ((places xs).getD j 0 : Nat) ∧ (places xs).getD j 0 < n) := hpl
      have Hs : Hid (upTo (shZ xs h m) m = 0) := hs
      have Hf : Hid (Fair (softZ (coolZ xs h m) m)) := hf
      clear eM hpl hs hf hk hmx hm
      go_enter Tryz.func88, Tryz.ntmps88
      go_wp2_with (first
        | (go_at_call 124; refine kt.mono ?_; rintro e w1 ⟨⟨a, c, rfl, r1, -, -⟩, hb1⟩
           have r0 := h0.below hb1
           have kc := cooled_call a0 n c0 xs a m c (pickZ xs k) (places xs) h w1 r0 r1 Pl.out wh (by omega))
        | (go_at_call 126; refine kc.mono ?_; rintro e w2 ⟨⟨a', c', rfl, r2⟩, hb2⟩
           have hb12 := below_then hb1 hb2
           have ks := soft_call a' m c' (coolZ xs h m) w2 r2 (by omega))
        | (go_at_call 125; refine ks.mono ?_; rintro e w3 ⟨⟨a3, c3, rfl, r3⟩, hb3⟩
           have hb13 := below_then hb12 hb3
           have k4 := total_call a3 m c3 (softZ (coolZ xs h m) m) w3 r3 Hf.out (by omega)
           have r03 := h0.below hb13
           rw [show upTo (softZ (coolZ xs h m) m) m = 0 from Hs.out] at k4)
        | (go_at_call 127; refine k4.mono ?_; rintro e w4 ⟨rfl, hw4⟩; obtain rfl := hw4.symm; clear hw4)
        | (go_at_call 86; refine (km _ r03).mono ?_; rintro e w5 ⟨rfl, hb5⟩
           have hbz := below_then hb13 hb5))
      all_goals (try (exfalso; omega))
      all_goals (go_ret; exact ⟨rfl, hbz⟩)
    · rw [choose_some hmx hk hs]
      have hbS := upTo_bounds hf m
      have hS : 0 < upTo (shZ xs h m) m := by
        have : 0 ≤ upTo (shZ xs h m) m := hbS.1
        omega
      have hS2 : upTo (shZ xs h m) m ≤ 2147483647 * (m : Int) := hbS.2
      have hr0 : 0 ≤ u % upTo (shZ xs h m) m := Int.emod_nonneg _ (by omega)
      have hr1 : u % upTo (shZ xs h m) m < upTo (shZ xs h m) m := Int.emod_lt_of_pos _ hS
      have hse : seatZ (shZ xs h m) m (u % upTo (shZ xs h m) m) < m := seat_lt hf hr0 hr1
      have kr := fun (a3 : Option Addr) (c3 : Nat) (W : World) (hW : Reads .i64 W a3 m (softZ (coolZ xs h m) m)) => reached_call a3 m c3 (softZ (coolZ xs h m) m) (u % upTo (shZ xs h m) m) W hW hf (by omega) hr0 hr1
      have k4 := fun (a3 : Option Addr) (c3 : Nat) (W : World) (hW : Reads .i64 W a3 m (softZ (coolZ xs h m) m)) => total_call a3 m c3 (softZ (coolZ xs h m) m) W hW hf (by omega)
      have e1 : upTo (softZ (coolZ xs h m) m) m = upTo (shZ xs h m) m := rfl
      have e2 : ∀ r, seatZ (softZ (coolZ xs h m) m) m r = seatZ (shZ xs h m) m r := fun _ => rfl
      simp only [e1] at k4
      simp only [e2] at kr
      have ca := fun (a : Option Addr) (W : World) (hW : Reads .i64 W a m (pickZ xs k)) (y : Addr) (hy : a = some y) => hW.cell y hy (seatZ (shZ xs h m) m (u % upTo (shZ xs h m) m)) hse
      rw [(hpl _ hse).1] at ca
      have tm : u.tmod (upTo (shZ xs h m) m) = u % upTo (shZ xs h m) m := Int.tmod_eq_emod_of_nonneg bu.1
      obtain ⟨q, eq⟩ : ∃ q, seatZ (shZ xs h m) m (u % upTo (shZ xs h m) m) = q := ⟨_, rfl⟩
      rw [eq] at hse kr ca ⊢
      obtain ⟨P, eP⟩ : ∃ P, (places xs).getD q 0 = P := ⟨_, rfl⟩
      rw [eP] at ca ⊢
      obtain ⟨S, eS⟩ : ∃ S, upTo (shZ xs h m) m = S := ⟨_, rfl⟩
      rw [eS] at k4 kr hS hr0 hr1 hS2 tm
      obtain ⟨r, er⟩ : ∃ r, u % S = r := ⟨_, rfl⟩
      rw [er] at kr hr0 hr1 tm
      have Pl : Hid (∀ j, j < m → (pickZ xs k).getD j 0 = ((places xs).getD j 0 : Nat) ∧ (places xs).getD j 0 < n) := hpl
      have hm0 : 0 < m := by omega
      clear e1 e2 eq eP eS er hpl hs hf hk hmx hm hbS
      go_enter Tryz.func88, Tryz.ntmps88
      go_wp2_with (first
        | (go_at_call 124; refine kt.mono ?_; rintro e w1 ⟨⟨a, c, rfl, r1, -, -⟩, hb1⟩
           have r0 := h0.below hb1
           obtain ⟨y, rfl⟩ := r1.some_ hm0
           have kc := cooled_call a0 n c0 xs (some y) m c (pickZ xs k) (places xs) h w1 r0 r1 Pl.out wh (by omega))
        | (go_at_call 126; refine kc.mono ?_; rintro e w2 ⟨⟨a', c', rfl, r2⟩, hb2⟩
           have hb12 := below_then hb1 hb2
           have ks := soft_call a' m c' (coolZ xs h m) w2 r2 (by omega))
        | (go_at_call 125; refine ks.mono ?_; rintro e w3 ⟨⟨a3, c3, rfl, r3⟩, hb3⟩
           have hb13 := below_then hb12 hb3
           have cy := ca (some y) w3 (r1.below (below_then hb2 hb3)) y rfl)
        | (go_at_call 127; refine (k4 _ _ _ r3).mono ?_; rintro e w4 ⟨rfl, hw4⟩; obtain rfl := hw4.symm; clear hw4)
        | (go_at_call 128; (first | rw [tm] | skip); refine (kr _ _ _ r3).mono ?_; rintro e w5 ⟨rfl, hw5⟩; obtain rfl := hw5.symm; clear hw5))
      all_goals (try (exfalso; omega))
      all_goals (go_ret; exact ⟨rfl, hb13⟩)
end
end Go.Proofs.YtbkjhfmehemgpaaGreat
