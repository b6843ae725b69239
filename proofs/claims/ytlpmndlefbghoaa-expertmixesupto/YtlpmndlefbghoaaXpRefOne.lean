/- What one network makes of a row: the contract of the document's call. -/
import Derived.Test.YtlpmndlefbghoaaRows
import Derived.Test.YtlpmndlefbghoaaView
import Derived.Test.YtlpmndlefbghoaaOwn
import Derived.Test.YtlpmndlefbghoaaSat
import Derived.Test.YtlpmndlefbghoaaSatRef
import Derived.Test.YtlpmndlefbghoaaExp
import Derived.Test.YtlpmndlefbghoaaRefExp
import Derived.Test.YtlpmndlefbghoaaSilu
import Derived.Test.YtlpmndlefbghoaaSteps
import Derived.Test.YtlpmndlefbghoaaFitZ
import Derived.Test.YtlpmndlefbghoaaMats
import Derived.Test.YtlpmndlefbghoaaMatsRef
import Derived.Test.YtlpmndlefbghoaaSoft
import Derived.Test.YtlpmndlefbghoaaHeld
import Derived.Test.YtlpmndlefbghoaaAskZ
import Derived.WalkKit
import Derived.ProofKit
import Derived.OpenShut
import Derived.Below
import Derived.WalkLawsBesides
import Derived.Deep.QuietTactic
import Derived.BigQuiet
namespace Go.Proofs.Ytlpmndlefbghoaa
open Go.ChangeShapes Go.WideShapes Go.ChangeAt Go.RowKit
set_option linter.unusedVariables false
set_option linter.unusedSimpArgs false

set_option maxHeartbeats 1000000 in
theorem refOne_yes (a0 : Option Addr) (n0 c0 : Nat) (up : List Int) (a1 : Option Addr) (n1 c1 : Nat) (down : List Int) (h : Int) (a3 : Option Addr) (n3 c3 : Nat) (xs : List Int) (w : World) (h0 : Reads .i8 w a0 n0 up) (l0 : n0 ≤ c0) (h1 : Reads .i8 w a1 n1 down) (l1 : n1 ≤ c1) (h3 : Reads .i64 w a3 n3 xs) (wh : (Lit.int .i64 h).wf = true) (b0 : n0 * 8 ≤ 140737488355328) (b1 : n1 * 8 ≤ 140737488355328) (hf : oneB up down h xs = true) :
    Calls Try.prog 17 #[.slice a0 n0 c0, .slice a1 n1 c1, .int .i64 h, .slice a3 n3 c3] w fun e w' => (∃ a c, e = .returned (.tuple #[.slice a n3 c, .int .i64 0]) ∧ Reads .i64 w' a n3 (oneL up down xs) ∧ ∀ x, a = some x → w.heap.size ≤ x.block) ∧ Below w.heap.size w w' := by
  obtain ⟨f1, f2⟩ := Bool.and_eq_true _ _ ▸ (show (fitB up.length h xs.length && fitB down.length (xs.length : Int) (hidL up xs).length) = true from hf)
  rw [h0.len, h3.len] at f1
  clear hf
  obtain ⟨i0, hi, hz0, hz1, hz2⟩ := info_parts info2
  have ku := refMat_yes a0 n0 c0 up h a3 n3 c3 xs w h0 l0 h3 f1 b0
  have hle := Nat.div_le_self n0 n3
  have hm3 := h3.max
  have hm1 := h1.max
  obtain ⟨R, eR⟩ : ∃ R, n0 / n3 = R := ⟨_, rfl⟩
  have eh : (hidL up xs).length = R := by rw [hidL_length, h0.len, h3.len, eR]
  have em : ∀ j, j < R → (matL up xs).getD j 0 = rowZ up n3 xs j := fun j hj => by
    rw [matL_at _ _ _ (by rw [h0.len, h3.len, eR]; exact hj), h3.len]
  rw [eR] at ku hle
  rw [h1.len, h3.len, eh] at f2
  have ha : ∀ j, j < R → (hidL up xs).getD j 0 = siluZ (rowZ up n3 xs j) := fun j hj => by
    rw [hidL_at _ _ _ (by rw [h0.len, h3.len, eR]; exact hj), h3.len]
  have Eh := hidden_ (And.intro eh ha)
  clear eR f1 eh ha
  have hRm : R ≤ 9223372036854775807 := by omega
  go_enter Try.func17, Try.ntmps17
  go_wp2_with (go_at_call 19; refine ku.mono ?_; rintro e w1 ⟨⟨am, cm, rfl, hr1, -⟩, hb1⟩)
  clear ku
  go_loopw [12, 13] (fun v i wr => ∃ k : Nat, k ≤ R ∧ i = .int .i64 k ∧ Below w1.heap.size w1 wr ∧ wr.ownsRow w1.heap.size 2 1 v k (gath (fun j => siluZ (rowZ up n3 xs j)) .i64 k)) (fun _ i _ => R - (intOf i).toNat)
  case atStart => exact ⟨0, Nat.zero_le _, rfl, Below.refl _ _, World.ownsRow_nil _ _ _ _⟩
  case round =>
    obtain ⟨k, hk, rfl, hbr, ho⟩ := hrel
    by_cases hlt : k < R
    · obtain ⟨x, rfl⟩ := hr1.some_ (by omega)
      have cx := (hr1.below hbr).cell x rfl k hlt
      rw [em k hlt] at cx
      have wZ : (Lit.int .i64 (rowZ up n3 xs k)).wf = true := wf_clampZ _
      have ks := fun W => refSilu_call (rowZ up n3 xs k) wZ W
      obtain ⟨Z, eZ⟩ : ∃ Z, rowZ up n3 xs k = Z := ⟨_, rfl⟩
      rw [eZ] at cx ks
      obtain ⟨E, eE⟩ : ∃ E, siluZ Z = E := ⟨_, rfl⟩
      rw [eE] at ks
      have Ev : Hid (E = siluZ (rowZ up n3 xs k)) := by show E = _; rw [eZ, eE]
      have hsz := hbr.size
      clear eZ eE wZ em
      go_wp2_with (first
        | (go_at_call 33; refine (ks _).mono ?_; rintro e W2 ⟨rfl, hb2⟩
           have ho2 := own_below ho hb2
           have hbr2 := below_then hbr hb2
           have hsz2 := hbr2.size
           clear hb2)
        | (at_builtin; refine wpList_append_own _ rfl (.tmp 30) (.tmp 36) 24 rfl w1.heap.size 2 i0 (.int .i64 0) 1 8 Try.underlying24 hi hz0 hz1 hz2 rfl (by decide) _ _ _ rfl (World.ownsRow.alloc (w := W2) ho2 _) ⟨_, 0, none⟩ 1 1 [.int .i64 E] rfl rfl (one_new _ _ _) (one_oneCell _ _) (by unfold maxLen; omega) (by omega) (by simp; omega) ?_; intro v' w1' ho' hg _))
      go_roundw
      case rel => exact ⟨k + 1, by omega, by go_num, append_step (wr := W2) hsz2 Ev.out hbr2 ho2 ho' hg⟩
      case measure => simp [intOf]; omega
    · have e : k = R := by omega
      subst e
      have fin := own_reads (zs := hidL up xs) ho Eh.out.1 (fun z hz => by
        obtain ⟨y, _, rfl⟩ := List.mem_map.1 hz
        exact wf_clampZ _) (fun j hj => by rw [gath_at _ _ _ _ hj, Eh.out.2 j hj])
      obtain ⟨al, cl, rfl, hr2⟩ := fin
      clear ho em
      have hbw := below_then hb1 hbr
      have kd := refMat_yes a1 n1 c1 down (n3 : Int) al k cl (hidL up xs) wr (h1.below hbw) l1 hr2 f2 b1
      have en : n1 / k = n3 := by have := (fitB_yes f2).2.2; omega
      rw [en] at kd
      have hsw := hbw.size
      clear f2 en
      go_wp2_with (go_at_call 19; refine kd.mono ?_; rintro e w2 ⟨⟨a2, c2, rfl, hr2, fr2⟩, hb2⟩)
      have fr : Hid (∀ x, a2 = some x → w.heap.size ≤ x.block) := fun x hx => Nat.le_trans hsw (fr2 x hx)
      clear fr2
      go_ret2
      exact ⟨⟨_, _, rfl, hr2, fr.out⟩, below_then hbw hb2⟩

set_option maxHeartbeats 1000000 in
theorem refOne_late (a0 : Option Addr) (n0 c0 : Nat) (up : List Int) (a1 : Option Addr) (n1 c1 : Nat) (down : List Int) (h : Int) (a3 : Option Addr) (n3 c3 : Nat) (xs : List Int) (w : World) (h0 : Reads .i8 w a0 n0 up) (l0 : n0 ≤ c0) (h1 : Reads .i8 w a1 n1 down) (l1 : n1 ≤ c1) (h3 : Reads .i64 w a3 n3 xs) (wh : (Lit.int .i64 h).wf = true) (b0 : n0 * 8 ≤ 140737488355328) (b1 : n1 * 8 ≤ 140737488355328) (f1 : fitB n0 h n3 = true) (f2 : fitB down.length (xs.length : Int) (hidL up xs).length = false) :
    Calls Try.prog 17 #[.slice a0 n0 c0, .slice a1 n1 c1, .int .i64 h, .slice a3 n3 c3] w fun e w' => e = .returned (.tuple #[.slice none 0 0, .int .i64 21]) ∧ Below w.heap.size w w' := by
  obtain ⟨i0, hi, hz0, hz1, hz2⟩ := info_parts info2
  have ku := refMat_yes a0 n0 c0 up h a3 n3 c3 xs w h0 l0 h3 f1 b0
  have hle := Nat.div_le_self n0 n3
  have hm3 := h3.max
  have hm1 := h1.max
  obtain ⟨R, eR⟩ : ∃ R, n0 / n3 = R := ⟨_, rfl⟩
  have eh : (hidL up xs).length = R := by rw [hidL_length, h0.len, h3.len, eR]
  have em : ∀ j, j < R → (matL up xs).getD j 0 = rowZ up n3 xs j := fun j hj => by
    rw [matL_at _ _ _ (by rw [h0.len, h3.len, eR]; exact hj), h3.len]
  rw [eR] at ku hle
  rw [h1.len, h3.len, eh] at f2
  have ha : ∀ j, j < R → (hidL up xs).getD j 0 = siluZ (rowZ up n3 xs j) := fun j hj => by
    rw [hidL_at _ _ _ (by rw [h0.len, h3.len, eR]; exact hj), h3.len]
  have Eh := hidden_ (And.intro eh ha)
  clear eR f1 eh ha
  have hRm : R ≤ 9223372036854775807 := by omega
  go_enter Try.func17, Try.ntmps17
  go_wp2_with (go_at_call 19; refine ku.mono ?_; rintro e w1 ⟨⟨am, cm, rfl, hr1, -⟩, hb1⟩)
  clear ku
  go_loopw [12, 13] (fun v i wr => ∃ k : Nat, k ≤ R ∧ i = .int .i64 k ∧ Below w1.heap.size w1 wr ∧ wr.ownsRow w1.heap.size 2 1 v k (gath (fun j => siluZ (rowZ up n3 xs j)) .i64 k)) (fun _ i _ => R - (intOf i).toNat)
  case atStart => exact ⟨0, Nat.zero_le _, rfl, Below.refl _ _, World.ownsRow_nil _ _ _ _⟩
  case round =>
    obtain ⟨k, hk, rfl, hbr, ho⟩ := hrel
    by_cases hlt : k < R
    · obtain ⟨x, rfl⟩ := hr1.some_ (by omega)
      have cx := (hr1.below hbr).cell x rfl k hlt
      rw [em k hlt] at cx
      have wZ : (Lit.int .i64 (rowZ up n3 xs k)).wf = true := wf_clampZ _
      have ks := fun W => refSilu_call (rowZ up n3 xs k) wZ W
      obtain ⟨Z, eZ⟩ : ∃ Z, rowZ up n3 xs k = Z := ⟨_, rfl⟩
      rw [eZ] at cx ks
      obtain ⟨E, eE⟩ : ∃ E, siluZ Z = E := ⟨_, rfl⟩
      rw [eE] at ks
      have Ev : Hid (E = siluZ (rowZ up n3 xs k)) := by show E = _; rw [eZ, eE]
      have hsz := hbr.size
      clear eZ eE wZ em
      go_wp2_with (first
        | (go_at_call 33; refine (ks _).mono ?_; rintro e W2 ⟨rfl, hb2⟩
           have ho2 := own_below ho hb2
           have hbr2 := below_then hbr hb2
           have hsz2 := hbr2.size
           clear hb2)
        | (at_builtin; refine wpList_append_own _ rfl (.tmp 30) (.tmp 36) 24 rfl w1.heap.size 2 i0 (.int .i64 0) 1 8 Try.underlying24 hi hz0 hz1 hz2 rfl (by decide) _ _ _ rfl (World.ownsRow.alloc (w := W2) ho2 _) ⟨_, 0, none⟩ 1 1 [.int .i64 E] rfl rfl (one_new _ _ _) (one_oneCell _ _) (by unfold maxLen; omega) (by omega) (by simp; omega) ?_; intro v' w1' ho' hg _))
      go_roundw
      case rel => exact ⟨k + 1, by omega, by go_num, append_step (wr := W2) hsz2 Ev.out hbr2 ho2 ho' hg⟩
      case measure => simp [intOf]; omega
    · have e : k = R := by omega
      subst e
      have fin := own_reads (zs := hidL up xs) ho Eh.out.1 (fun z hz => by
        obtain ⟨y, _, rfl⟩ := List.mem_map.1 hz
        exact wf_clampZ _) (fun j hj => by rw [gath_at _ _ _ _ hj, Eh.out.2 j hj])
      obtain ⟨al, cl, rfl, hr2⟩ := fin
      clear ho em
      have hbw := below_then hb1 hbr
      have kd := refMat_no a1 n1 c1 (n3 : Int) al k cl wr hm1 hRm (WalkArith.wf_i64 ⟨by omega, by omega⟩) f2
      go_wp2_with (go_at_call 19; refine kd.mono ?_; rintro e w2 ⟨rfl, hq⟩; obtain rfl := hq.symm)
      go_ret2
      exact ⟨rfl, hbw⟩

theorem refOne_early (a0 : Option Addr) (n0 c0 : Nat) (up : List Int) (a1 : Option Addr) (n1 c1 : Nat) (down : List Int) (h : Int) (a3 : Option Addr) (n3 c3 : Nat) (xs : List Int) (w : World) (h0 : Reads .i8 w a0 n0 up) (l0 : n0 ≤ c0) (h1 : Reads .i8 w a1 n1 down) (l1 : n1 ≤ c1) (h3 : Reads .i64 w a3 n3 xs) (wh : (Lit.int .i64 h).wf = true) (b0 : n0 * 8 ≤ 140737488355328) (b1 : n1 * 8 ≤ 140737488355328) (f1 : fitB n0 h n3 = false) :
    Calls Try.prog 17 #[.slice a0 n0 c0, .slice a1 n1 c1, .int .i64 h, .slice a3 n3 c3] w fun e w' => e = .returned (.tuple #[.slice none 0 0, .int .i64 21]) ∧ Below w.heap.size w w' := by
  have ku := refMat_no a0 n0 c0 h a3 n3 c3 w h0.max h3.max wh f1
  go_enter Try.func17, Try.ntmps17
  go_wp2_with (go_at_call 19; refine ku.mono ?_; rintro e w2 ⟨rfl, hq⟩; obtain rfl := hq.symm)
  go_ret2
  exact ⟨rfl, Below.refl _ _⟩

theorem refOne_no (a0 : Option Addr) (n0 c0 : Nat) (up : List Int) (a1 : Option Addr) (n1 c1 : Nat) (down : List Int) (h : Int) (a3 : Option Addr) (n3 c3 : Nat) (xs : List Int) (w : World) (h0 : Reads .i8 w a0 n0 up) (l0 : n0 ≤ c0) (h1 : Reads .i8 w a1 n1 down) (l1 : n1 ≤ c1) (h3 : Reads .i64 w a3 n3 xs) (wh : (Lit.int .i64 h).wf = true) (b0 : n0 * 8 ≤ 140737488355328) (b1 : n1 * 8 ≤ 140737488355328) (hf : oneB up down h xs = false) :
    Calls Try.prog 17 #[.slice a0 n0 c0, .slice a1 n1 c1, .int .i64 h, .slice a3 n3 c3] w fun e w' => e = .returned (.tuple #[.slice none 0 0, .int .i64 21]) ∧ Below w.heap.size w w' := by
  have hf' : (fitB up.length h xs.length && fitB down.length (xs.length : Int) (hidL up xs).length) = false := hf
  rw [h0.len, h3.len] at hf'
  cases f1 : fitB n0 h n3 with
  | false => exact refOne_early a0 n0 c0 up a1 n1 c1 down h a3 n3 c3 xs w h0 l0 h1 l1 h3 wh b0 b1 f1
  | true =>
    rw [f1, Bool.true_and] at hf'
    exact refOne_late a0 n0 c0 up a1 n1 c1 down h a3 n3 c3 xs w h0 l0 h1 l1 h3 wh b0 b1 f1 (by rw [h3.len]; exact hf')

theorem refOne_call (a0 : Option Addr) (n0 c0 : Nat) (up : List Int) (a1 : Option Addr) (n1 c1 : Nat) (down : List Int) (h : Int) (a3 : Option Addr) (n3 c3 : Nat) (xs : List Int) (w : World) (h0 : Reads .i8 w a0 n0 up) (l0 : n0 ≤ c0) (h1 : Reads .i8 w a1 n1 down) (l1 : n1 ≤ c1) (h3 : Reads .i64 w a3 n3 xs) (wh : (Lit.int .i64 h).wf = true) (b0 : n0 * 8 ≤ 140737488355328) (b1 : n1 * 8 ≤ 140737488355328) :
    Calls Try.prog 17 #[.slice a0 n0 c0, .slice a1 n1 c1, .int .i64 h, .slice a3 n3 c3] w fun e w' => (∃ a m c, e = .returned (.tuple #[.slice a m c, .int .i64 (if oneB up down h xs then 0 else 21)]) ∧ Reads .i64 w' a m (if oneB up down h xs then oneL up down xs else [])) ∧ Below w.heap.size w w' := by
  cases hf : oneB up down h xs with
  | true => exact (refOne_yes a0 n0 c0 up a1 n1 c1 down h a3 n3 c3 xs w h0 l0 h1 l1 h3 wh b0 b1 hf).mono fun e w' ⟨⟨a, c, he, hr, _⟩, hb⟩ => ⟨⟨a, n3, c, he, hr⟩, hb⟩
  | false => exact (refOne_no a0 n0 c0 up a1 n1 c1 down h a3 n3 c3 xs w h0 l0 h1 l1 h3 wh b0 b1 hf).mono fun e w' ⟨he, hb⟩ => ⟨⟨none, 0, 0, he, Reads.nil _ _⟩, hb⟩

end Go.Proofs.Ytlpmndlefbghoaa
