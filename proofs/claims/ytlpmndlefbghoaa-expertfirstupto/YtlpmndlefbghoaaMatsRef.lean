/- What the products of a matrix's rows with a row give back: the contract of the document's call; both, where the matrix does not fit. -/
import Derived.Test.YtlpmndlefbghoaaRows
import Derived.Test.YtlpmndlefbghoaaSat
import Derived.Test.YtlpmndlefbghoaaSatRef
import Derived.Test.YtlpmndlefbghoaaAdds
import Derived.Test.YtlpmndlefbghoaaView
import Derived.Test.YtlpmndlefbghoaaOwn
import Derived.Test.YtlpmndlefbghoaaFitZ
import Derived.Test.YtlpmndlefbghoaaDotsRef
import Derived.Test.YtlpmndlefbghoaaMats
import Derived.WalkKit
import Derived.ProofKit
import Derived.OpenShut
import Derived.Below
import Derived.WalkLawsBesides
namespace Go.Proofs.Ytlpmndlefbghoaa
open Go.ChangeShapes Go.WideShapes Go.ChangeAt Go.RowKit
set_option linter.unusedVariables false

set_option maxRecDepth 8000 in
theorem refMat_fits (a0 : Option Addr) (n c0 : Nat) (ws : List Int) (R : Nat) (a2 : Option Addr) (d c2 : Nat) (xs : List Int) (w : World)
    (h0 : Reads .i8 w a0 n ws) (hc : n ≤ c0) (h2 : Reads .i64 w a2 d xs) (hd : 0 < d) (hn : n = R * d) (hb : R * 8 ≤ 140737488355328) :
    Calls Try.prog 19 #[.slice a0 n c0, .int .i64 R, .slice a2 d c2] w fun e w' => (∃ a c, e = .returned (.tuple #[.slice a R c, .int .i64 0]) ∧ Reads .i64 w' a R ((List.range R).map (rowZ ws d xs)) ∧ ∀ x, a = some x → w.heap.size ≤ x.block) ∧ Below w.heap.size w w' := by
  obtain ⟨i0, hi, hz0, hz1, hz2⟩ := info_parts info2
  have hm := h0.max
  have hm2 := h2.max
  have e1 : (n : Int) % (d : Int) = 0 := by rw [← Int.natCast_emod, hn]; simp
  have e2 : (n : Int) / (d : Int) = R := by rw [← Int.natCast_ediv, hn, Nat.mul_div_cancel R hd]
  have e3 : ((d : Int) == 0) = false := by simp; omega
  have Hn : Hid (n = R * d) := hn
  clear hn
  go_enter Try.func19, Try.ntmps19
  go_wp2
  clear e1 e2 e3
  go_loopw [8, 9] (fun v i wr => ∃ k : Nat, k ≤ R ∧ i = .int .i64 k ∧ Below w.heap.size w wr ∧ wr.ownsRow w.heap.size 2 1 v k (gath (rowZ ws d xs) .i64 k)) (fun _ i _ => R - (intOf i).toNat)
  case atStart => exact ⟨0, Nat.zero_le _, rfl, Below.refl _ _, World.ownsRow_nil _ _ _ _⟩
  case round =>
    obtain ⟨k, hk, rfl, hbr, ho⟩ := hrel
    by_cases hlt : k < R
    · obtain ⟨p, ep⟩ : ∃ p, k * d = p := ⟨_, rfl⟩
      have eq : (k + 1) * d = p + d := by rw [Nat.add_mul, ep]; omega
      have hq : p + d ≤ n := by rw [Hn.out, ← eq]; exact Nat.mul_le_mul_right d (by omega)
      have ip : (k : Int) * (d : Int) = (p : Int) := by rw [← ep]; simp
      have iq : ((k : Int) + 1) * (d : Int) = ((p + d : Nat) : Int) := by rw [← eq]; simp
      obtain ⟨q, eq'⟩ : ∃ q, p + d = q := ⟨_, rfl⟩
      rw [eq'] at iq
      have hr0 := h0.below hbr
      have hr2 := h2.below hbr
      obtain ⟨x, rfl⟩ := h0.some_ (by omega)
      have hcut := hr0.cut p d hq
      have eV : rowZ ws d xs k = dotZ ((ws.drop p).take d) xs 6 := by unfold rowZ; rw [ep]
      obtain ⟨V, eV'⟩ : ∃ V, dotZ ((ws.drop p).take d) xs 6 = V := ⟨_, rfl⟩
      have Ev : Hid (V = rowZ ws d xs k) := by show V = _; rw [eV, eV']
      have kp : Calls Try.prog 34 #[.slice (some (x.add p)) d (c0 - p), .slice a2 d c2] wr fun e w' => e = .returned (.tuple #[.int .i64 V, .int .i64 0]) ∧ ∃ m, w' = wr.drewN m := by
        rw [← eV']
        exact refDot_same _ _ _ _ _ _ _ _ hcut hr2
      have hsub : q - p = d := by omega
      have hne : ¬ c0 = p := by omega
      have hpq : (p : Int) ≤ (q : Int) := by omega
      have hqc : (q : Int) ≤ (c0 : Int) := by omega
      have hqm : (q : Int) ≤ 9223372036854775807 := by omega
      have hsz := hbr.size
      clear eq eq' ep eV eV' hr0 hr2 hcut h0 h2
      go_wp2_with (first
        | (go_at_call 34; refine kp.mono ?_; rintro e w' ⟨rfl, m, rfl⟩)
        | (at_builtin; refine wpList_append_own _ rfl (.tmp 57) (.tmp 59) 24 rfl w.heap.size 2 i0 (.int .i64 0) 1 8 Try.underlying24 hi hz0 hz1 hz2 rfl (by decide) _ _ _ rfl (World.ownsRow.alloc (w := wr.drewN m) ho _) ⟨_, 0, none⟩ 1 1 [.int .i64 V] rfl rfl (one_new _ _ _) (one_oneCell _ _) (by unfold maxLen; omega) (by omega) (by simp; omega) ?_; intro v' w1 ho' hg _))
      go_roundw
      case rel => exact ⟨k + 1, by omega, by go_num, append_step (wr := wr.drewN m) hsz Ev.out (below_drew hbr ⟨m, rfl⟩) ho ho' hg⟩
      case measure => simp [intOf]; omega
    · have e : k = R := by omega
      subst e
      have fin := own_reads (zs := (List.range k).map (rowZ ws d xs)) ho (by simp) (fun z hz => by obtain ⟨y, _, rfl⟩ := List.mem_map.1 hz; exact wf_clampZ _) (fun j hj => by rw [gath_at _ _ _ _ hj]; simp [hj])
      obtain ⟨a, c, rfl, hr⟩ := fin
      have fr : Hid (∀ x, a = some x → w.heap.size ≤ x.block) := fun x hx => (ho.lt x.block (by rw [hx]; rfl)).1
      clear ho
      go_wp2
      go_ret2
      exact ⟨⟨_, _, rfl, hr, fr.out⟩, hbr⟩

theorem mat_not (a0 : Option Addr) (n c0 : Nat) (r : Int) (a2 : Option Addr) (d c2 : Nat) (w : World) (hm : n ≤ 9223372036854775807) (hm2 : d ≤ 9223372036854775807) (hr : (Lit.int .i64 r).wf = true)
    (h : ¬ (0 < d ∧ n % d = 0 ∧ ((n / d : Nat) : Int) = r)) :
    Calls Try.prog 38 #[.slice a0 n c0, .int .i64 r, .slice a2 d c2] w fun e w' => e = .returned (.tuple #[.slice none 0 0, .int .i64 21]) ∧ w' = w := by
  have kf : ∀ W, Calls Try.prog 50 #[.int .i64 n, .int .i64 r, .int .i64 d] W fun e w' => e = .returned (.bool false) ∧ w' = W := fun W => by
    have := fits_call n d r hm hm2 hr W
    rwa [decide_eq_false h] at this
  clear h
  go_enter Try.func38, Try.ntmps38
  go_wp2_with (go_at_call 50; refine (kf _).mono ?_; rintro e w' ⟨rfl, h⟩; obtain rfl := h.symm)
  go_ret2
  exact ⟨rfl, rfl⟩

theorem refMat_not (a0 : Option Addr) (n c0 : Nat) (r : Int) (a2 : Option Addr) (d c2 : Nat) (w : World) (hm : n ≤ 9223372036854775807) (hm2 : d ≤ 9223372036854775807) (hr : (Lit.int .i64 r).wf = true)
    (h : ¬ (0 < d ∧ n % d = 0 ∧ ((n / d : Nat) : Int) = r)) :
    Calls Try.prog 19 #[.slice a0 n c0, .int .i64 r, .slice a2 d c2] w fun e w' => e = .returned (.tuple #[.slice none 0 0, .int .i64 21]) ∧ w' = w := by
  by_cases r0 : r < 0
  · clear h
    go_enter Try.func19, Try.ntmps19
    go_wp2
    go_ret2
    exact ⟨rfl, rfl⟩
  by_cases d0 : d = 0
  · subst d0
    clear h
    go_enter Try.func19, Try.ntmps19
    go_wp2
    go_ret2
    exact ⟨rfl, rfl⟩
  have e3 : ((d : Int) == 0) = false := by simp; omega
  have q0 : 0 ≤ (n : Int) / (d : Int) := Int.ediv_nonneg (by omega) (by omega)
  have q1 : (n : Int) / (d : Int) ≤ n := Int.ediv_le_self _ (by omega)
  have eq : ((n / d : Nat) : Int) = (n : Int) / (d : Int) := Int.natCast_ediv n d
  have er : ((n % d : Nat) : Int) = (n : Int) % (d : Int) := Int.natCast_emod n d
  obtain ⟨q, eq'⟩ : ∃ q, (n : Int) / (d : Int) = q := ⟨_, rfl⟩
  obtain ⟨m, er'⟩ : ∃ m, (n : Int) % (d : Int) = m := ⟨_, rfl⟩
  rw [eq'] at q0 q1 eq
  rw [er'] at er
  have hd0 : 0 < (d : Int) := by omega
  by_cases m0 : m = 0
  · subst m0
    have hq : (q == r) = false := by
      simp
      intro hq
      exact h ⟨by omega, by omega, by rw [eq]; exact hq⟩
    clear h eq er
    go_enter Try.func19, Try.ntmps19
    go_wp2
    go_ret2
    exact ⟨rfl, rfl⟩
  · have m0' : (m == 0) = false := by simp [m0]
    clear h eq er
    go_enter Try.func19, Try.ntmps19
    go_wp2
    go_ret2
    exact ⟨rfl, rfl⟩

theorem refMat_call (a0 : Option Addr) (n c0 : Nat) (ws : List Int) (r : Int) (a2 : Option Addr) (d c2 : Nat) (xs : List Int) (w : World)
    (h0 : Reads .i8 w a0 n ws) (hc : n ≤ c0) (h2 : Reads .i64 w a2 d xs) (hr : (Lit.int .i64 r).wf = true) (hb : n * 8 ≤ 140737488355328) :
    Calls Try.prog 19 #[.slice a0 n c0, .int .i64 r, .slice a2 d c2] w fun e w' => (∃ a m c, e = .returned (.tuple #[.slice a m c, .int .i64 (if 0 < d ∧ n % d = 0 ∧ ((n / d : Nat) : Int) = r then 0 else 21)]) ∧
      Reads .i64 w' a m (if 0 < d ∧ n % d = 0 ∧ ((n / d : Nat) : Int) = r then (List.range (n / d)).map (rowZ ws d xs) else [])) ∧ Below w.heap.size w w' := by
  by_cases h : 0 < d ∧ n % d = 0 ∧ ((n / d : Nat) : Int) = r
  · simp only [if_pos h]
    obtain ⟨hd, hm, rfl⟩ := h
    have e : n = n / d * d := by have := Nat.div_add_mod n d; rw [hm, Nat.mul_comm] at this; omega
    have hle := Nat.div_le_self n d
    exact (refMat_fits _ _ _ _ _ _ _ _ _ _ h0 hc h2 hd e (by omega)).mono fun e w' ⟨⟨a, c, he, hr, _⟩, hw⟩ => ⟨⟨a, _, c, he, hr⟩, hw⟩
  · simp only [if_neg h]
    exact (refMat_not _ _ _ _ _ _ _ _ h0.max h2.max hr h).mono fun e w' ⟨he, hw⟩ => ⟨⟨none, 0, 0, he, Reads.nil _ _⟩, hw ▸ Below.refl _ _⟩

end Go.Proofs.Ytlpmndlefbghoaa
