/- What the document's Turn gives back: the contract of the call. -/
import Derived.Test.YtjbjclphomeafaaRows
import Derived.Test.YtjbjclphomeafaaSat
import Derived.Test.YtjbjclphomeafaaSatRef
import Derived.Test.YtjbjclphomeafaaView
import Derived.Test.YtjbjclphomeafaaOwn
import Derived.Test.YtjbjclphomeafaaTabs
import Derived.Test.YtjbjclphomeafaaPair
import Derived.Test.YtjbjclphomeafaaTurn
import Derived.Test.YtjbjclphomeafaaTurns
import Derived.WalkKit
import Derived.ProofKit
import Derived.OpenShut
import Derived.Below
import Derived.WalkLawsBesides
import Derived.Deep.QuietTactic
import Derived.BigQuiet
namespace Go.Proofs.Ytjbjclphomeafaa
open Go.ChangeShapes Go.WideShapes Go.ChangeAt Go.RowKit
set_option linter.unusedVariables false

theorem below_drawn {w W : World} {m : Nat} (h : Below (w.drewN m).heap.size (w.drewN m) W) : Below w.heap.size w W := ⟨h.os, h.tape, h.output, h.size, h.block⟩

set_option maxHeartbeats 2000000 in
theorem refTurn_ok (a0 : Option Addr) (h c0 : Nat) (xs : List Int) (p : Int) (w : World) (h0 : Reads .i64 w a0 (2 * h) xs) (hp : 0 ≤ p ∧ p ≤ 1000) (hb : 2 * h * 8 ≤ 140737488355328) :
    Calls Try.prog 9 #[.slice a0 (2 * h) c0, .int .i64 p] w fun e w' => (∃ a c, e = .returned (.tuple #[.slice a (2 * h) c, .int .i64 0]) ∧ Reads .i64 w' a (2 * h) (turnZ xs p (2 * h)) ∧ (a = none → c = 0)) ∧ Below w.heap.size w w' := by
  obtain ⟨i0, hi, hz0, hz1, hz2⟩ := info_parts info2
  obtain ⟨p0, p1⟩ := hp
  have hm := h0.max
  obtain ⟨n, en⟩ : ∃ n, 2 * h = n := ⟨_, rfl⟩
  rw [en] at h0 hb hm ⊢
  have ev : ((n : Int) % 2 == 0) = true := by simp; omega
  have hf : (n : Int) / 2 = (h : Int) := by omega
  unfold turnZ
  go_enter Try.func9, Try.ntmps9
  go_wp2
  go_loopw [6, 7] (fun v i wr => ∃ k : Nat, k ≤ h ∧ i = .int .i64 k ∧ Below w.heap.size w wr ∧ wr.ownsRow w.heap.size 2 1 v (2 * k) (gath (turnF xs p) .i64 (2 * k))) (fun _ i _ => h - (intOf i).toNat)
  case atStart => exact ⟨0, Nat.zero_le _, rfl, Below.refl _ _, World.ownsRow_nil _ _ _ _⟩
  case round =>
    obtain ⟨k, hk, rfl, hbr, ho⟩ := hrel
    by_cases hlt : k < h
    · have hr := h0.below hbr
      obtain ⟨x, rfl⟩ := h0.some_ (by omega)
      have cx := hr.cell x rfl (2 * k) (by omega)
      have cy := hr.cell x rfl (2 * k + 1) (by omega)
      have wx := h0.wf (2 * k)
      have wy := h0.wf (2 * k + 1)
      have eA := turnF_even xs p k
      have eB := turnF_odd xs p k
      unfold turnA at eA
      unfold turnB at eB
      have m0 : 0 ≤ p * ((k : Int) + 1) := Int.mul_nonneg p0 (by omega)
      have m1 : p * ((k : Int) + 1) ≤ 1000 * ((k : Int) + 1) := Int.mul_le_mul_of_nonneg_right p1 (by omega)
      obtain ⟨M, eM⟩ : ∃ M, p * ((k : Int) + 1) = M := ⟨_, rfl⟩
      rw [eM] at m0 m1 eA eB
      obtain ⟨X, eX⟩ : ∃ X, xs.getD (2 * k) 0 = X := ⟨_, rfl⟩
      obtain ⟨Y, eY⟩ : ∃ Y, xs.getD (2 * k + 1) 0 = Y := ⟨_, rfl⟩
      rw [eX] at cx wx
      rw [eY] at cy wy
      rw [eX, eY] at eA eB
      have cb := cosZ_bounds M
      have sb := sinZ_bounds M
      have kc := fun W => refCos_call M W
      have ks := fun W => refSin_call M W
      obtain ⟨C, eC⟩ : ∃ C, cosZ M = C := ⟨_, rfl⟩
      obtain ⟨S, eS⟩ : ∃ S, sinZ M = S := ⟨_, rfl⟩
      rw [eC] at cb kc eA eB
      rw [eS] at sb ks eA eB
      have wC : (Lit.int .i64 C).wf = true := WalkArith.wf_i64 ⟨by omega, by omega⟩
      have wS : (Lit.int .i64 S).wf = true := WalkArith.wf_i64 ⟨by omega, by omega⟩
      obtain ⟨p0, p1⟩ := mulZ_bounds X C
      obtain ⟨q0, q1⟩ := mulZ_bounds Y S
      obtain ⟨r0, r1⟩ := mulZ_bounds X S
      obtain ⟨s0, s1⟩ := mulZ_bounds Y C
      obtain ⟨i, ei⟩ : ∃ i, 2 * k = i := ⟨_, rfl⟩
      have ik : 2 * (k : Int) = (i : Int) := by omega
      have hin : i + 1 < n := by omega
      rw [ei] at cx cy ho eA eB
      obtain ⟨i', ei'⟩ : ∃ i', i + 1 = i' := ⟨_, rfl⟩
      rw [ei'] at cy hin
      have ik' : (i : Int) + 1 = (i' : Int) := by omega
      have Ei : Hid (i + 1 + 1 = 2 * (k + 1)) := show i + 1 + 1 = 2 * (k + 1) by omega
      have EA : Hid (clampZ (mulZ X C - mulZ Y S) = turnF xs p i) := eA.symm
      have EB : Hid (clampZ (mulZ X S + mulZ Y C) = turnF xs p (i + 1)) := eB.symm
      have hle : i + 1 + 1 ≤ n := by omega
      clear ei ei' eA eB eX eY hr h0 ev en eC eS cb sb
      go_wp2
      go_quiet (fail)
      go_wp2_with (first
        | (go_at_call 16; refine (kc _).mono ?_; rintro e W2 ⟨rfl, hb2⟩; replace hb2 := below_drawn hb2)
        | (go_at_call 17; refine (ks _).mono ?_; rintro e W3 ⟨rfl, hb3⟩; replace hb3 := below_then hb2 hb3; replace ho := own_below ho hb3; replace hbr := below_then hbr hb3; clear hb2 hb3; have hsz := hbr.size)
        | (go_at_call 18; refine (refMul_call _ _ (by assumption) (by assumption) _).mono ?_; rintro e w' ⟨rfl, h⟩; obtain rfl := h.symm)
        | (go_at_call 14; refine (refClamp_call _ _).mono ?_; rintro e w' ⟨rfl, h⟩; obtain rfl := h.symm)
        | (at_builtin; refine wpList_append_own _ rfl (.tmp 51) (.tmp 60) 22 rfl w.heap.size 2 i0 (.int .i64 0) 1 8 Try.underlying22 hi hz0 hz1 hz2 rfl (by decide) _ _ _ rfl (ho.alloc _) ⟨_, 0, none⟩ 1 1 [.int .i64 (clampZ (mulZ X C - mulZ Y S))] rfl rfl (one_new _ _ _) (one_oneCell _ _) (by unfold maxLen; omega) (by omega) (by simp; omega) ?_; intro v1 w1 ho1 hg1 _; obtain ⟨hb4, ho4⟩ := append_step hsz EA.out hbr ho ho1 hg1; clear ho1 hg1 ho; have hsz4 := hb4.size)
        | (at_builtin; refine wpList_append_own _ rfl (.tmp 62) (.tmp 71) 22 rfl w.heap.size 2 i0 (.int .i64 0) 1 8 Try.underlying22 hi hz0 hz1 hz2 rfl (by decide) _ _ _ rfl (ho4.alloc _) ⟨_, 0, none⟩ 1 1 [.int .i64 (clampZ (mulZ X S + mulZ Y C))] rfl rfl (one_new _ _ _) (one_oneCell _ _) (by unfold maxLen; omega) (by omega) (by simp; omega) ?_; intro v2 w2 ho2 hg2 _; have R := append_step hsz4 EB.out hb4 ho4 ho2 hg2; clear ho2 hg2 ho4))
      go_roundw
      case rel => exact ⟨k + 1, by omega, by go_num, R.1, by rw [← Ei.out]; exact R.2⟩
      case measure => simp [intOf]; omega
    · have e : k = h := by omega
      subst e
      rw [en] at ho
      have fin := own_reads (zs := (List.range n).map (turnF xs p)) ho (by simp) (fun z hz => by obtain ⟨y, _, rfl⟩ := List.mem_map.1 hz; exact wf_turnF _ _ _) (fun j hj => by rw [gath_at _ _ _ _ hj]; simp [hj])
      obtain ⟨a, c, rfl, hr⟩ := fin
      have hn := own_none ho
      clear ho
      go_wp2
      go_ret2
      exact ⟨⟨_, _, rfl, hr, hn⟩, hbr⟩

theorem refTurn_odd (a0 : Option Addr) (n c0 : Nat) (p : Int) (w : World) (h : n % 2 = 1) :
    Calls Try.prog 9 #[.slice a0 n c0, .int .i64 p] w fun e w' => e = .returned (.tuple #[.slice none 0 0, .int .i64 21]) ∧ w' = w := by
  have ev : ((n : Int) % 2 == 0) = false := by simp; omega
  go_enter Try.func9, Try.ntmps9
  go_wp2_with fail
  go_ret2
  exact ⟨rfl, rfl⟩

theorem refTurn_far (a0 : Option Addr) (n c0 : Nat) (p : Int) (w : World) (h : ¬n % 2 = 1) (h' : p < 0 ∨ 1000 < p) :
    Calls Try.prog 9 #[.slice a0 n c0, .int .i64 p] w fun e w' => e = .returned (.tuple #[.slice none 0 0, .int .i64 20]) ∧ w' = w := by
  have ev : ((n : Int) % 2 == 0) = true := by simp; omega
  rcases h' with h' | h'
  · go_enter Try.func9, Try.ntmps9
    go_wp2_with fail
    go_ret2
    exact ⟨rfl, rfl⟩
  · go_enter Try.func9, Try.ntmps9
    go_wp2_with fail
    go_ret2
    exact ⟨rfl, rfl⟩

theorem refTurn_call (a0 : Option Addr) (n c0 : Nat) (xs : List Int) (p : Int) (w : World) (h0 : Reads .i64 w a0 n xs) (hb : n * 8 ≤ 140737488355328) :
    Calls Try.prog 9 #[.slice a0 n c0, .int .i64 p] w fun e w' => (∃ a m c, e = .returned (.tuple #[.slice a m c, .int .i64 (turnE n p)]) ∧ Reads .i64 w' a m (turnR xs p n) ∧ (a = none → c = 0)) ∧ Below w.heap.size w w' := by
  by_cases h : n % 2 = 1
  · rw [turnR_no (by rw [turnE_odd h]; decide), turnE_odd h]
    exact (refTurn_odd _ _ _ _ _ h).mono fun e w' ⟨he, hw⟩ => ⟨⟨none, 0, 0, he, Reads.nil _ _, fun _ => rfl⟩, hw ▸ Below.refl _ _⟩
  · by_cases h' : p < 0 ∨ 1000 < p
    · rw [turnR_no (by rw [turnE_far h h']; decide), turnE_far h h']
      exact (refTurn_far _ _ _ _ _ h h').mono fun e w' ⟨he, hw⟩ => ⟨⟨none, 0, 0, he, Reads.nil _ _, fun _ => rfl⟩, hw ▸ Below.refl _ _⟩
    · rw [turnR_ok (turnE_ok h h'), turnE_ok h h']
      obtain ⟨k, rfl⟩ : ∃ k, n = 2 * k := ⟨n / 2, by omega⟩
      exact (refTurn_ok _ _ _ _ _ _ h0 (by omega) hb).mono fun e w' ⟨⟨a, c, he, hr, ha⟩, hw⟩ => ⟨⟨a, _, c, he, hr, ha⟩, hw⟩

end Go.Proofs.Ytjbjclphomeafaa
