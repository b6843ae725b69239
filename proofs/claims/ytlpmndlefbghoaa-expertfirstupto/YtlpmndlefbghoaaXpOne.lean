/- What one network makes of a row, or that an error is thrown: the contract of the inner call. -/
import Derived.Test.YtlpmndlefbghoaaRows
import Derived.Test.YtlpmndlefbghoaaView
import Derived.Test.YtlpmndlefbghoaaOwn
import Derived.Test.YtlpmndlefbghoaaSat
import Derived.Test.YtlpmndlefbghoaaExp
import Derived.Test.YtlpmndlefbghoaaSilu
import Derived.Test.YtlpmndlefbghoaaDots
import Derived.Test.YtlpmndlefbghoaaMats
import Derived.Test.YtlpmndlefbghoaaSoft
import Derived.Test.YtlpmndlefbghoaaHeld
import Derived.Test.YtlpmndlefbghoaaXpNeed
import Derived.Test.YtlpmndlefbghoaaXpPlain
import Derived.Test.YtlpmndlefbghoaaXpMat
import Derived.WalkKit
import Derived.ProofKit
import Derived.OpenShut
import Derived.Below
import Derived.WalkLawsBesides
import Derived.Deep.QuietTactic
import Derived.BigQuiet
namespace Go.Proofs.Ytlpmndlefbghoaa
open Go.ChangeShapes Go.WideShapes Go.ChangeAt Go.RowKit
set_option linter.unusedVariables false
set_option linter.unusedSimpArgs false

theorem wf_siluZ (y : Int) : (Lit.int .i64 (siluZ y)).wf = true := wf_clampZ _

set_option maxHeartbeats 1000000 in
theorem one_yes (a0 : Option Addr) (n0 c0 : Nat) (up : List Int) (a1 : Option Addr) (n1 c1 : Nat) (down : List Int) (h : Int) (a3 : Option Addr) (n3 c3 : Nat) (xs : List Int) (w : World) (h0 : Reads .i8 w a0 n0 up) (l0 : n0 ≤ c0) (h1 : Reads .i8 w a1 n1 down) (l1 : n1 ≤ c1) (h3 : Reads .i64 w a3 n3 xs) (wh : (Lit.int .i64 h).wf = true) (b0 : n0 * 8 ≤ 140737488355328) (b1 : n1 * 8 ≤ 140737488355328) (hf : oneB up down h xs = true) :
    Calls Try.prog 32 #[.slice a0 n0 c0, .slice a1 n1 c1, .int .i64 h, .slice a3 n3 c3] w fun e w' => (∃ a, e = .returned (.slice (some a) n3 n3) ∧ Reads .i64 w' (some a) n3 (oneL up down xs) ∧ w.heap.size ≤ a.block ∧ a.block < w'.heap.size) ∧ Below w.heap.size w w' := by
  obtain ⟨f1, f2⟩ := Bool.and_eq_true _ _ ▸ (show (fitB up.length h xs.length && fitB down.length (xs.length : Int) (hidL up xs).length) = true from hf)
  have el := oneL_length hf
  rw [h3.len] at el
  rw [h0.len, h3.len] at f1
  clear hf
  have ku := mat_yes a0 n0 c0 up h a3 n3 c3 xs w h0 l0 h3 f1 b0
  have hle := Nat.div_le_self n0 n3
  have hm3 := h3.max
  have hm1 := h1.max
  obtain ⟨R, eR⟩ : ∃ R, n0 / n3 = R := ⟨_, rfl⟩
  have eh : (hidL up xs).length = R := by rw [hidL_length, h0.len, h3.len, eR]
  rw [eR] at ku hle
  rw [h1.len, h3.len, eh] at f2
  have ha : ∀ j, j < R → (hidL up xs).getD j 0 = siluZ (rowZ up n3 xs j) := fun j hj => by
    rw [hidL_at _ _ _ (by rw [h0.len, h3.len, eR]; exact hj), h3.len]
  have Eh := hidden_ (And.intro eh ha)
  clear eR f1 eh ha
  have hRm : R ≤ 9223372036854775807 := by omega
  go_enter Try.func32, Try.ntmps32
  go_wp2_with (first
    | (go_at_call 38; refine ku.mono ?_; rintro e w1 ⟨⟨cs0, rfl, hr1, ho1, hc1⟩, hb1⟩)
    | (go_at_call 37; refine (must_yes _ _ _ _).mono ?_; rintro e w' ⟨rfl, hq⟩; obtain rfl := hq.symm))
  clear ku hr1
  go_loopw [21] (fun i wr => ∃ k : Nat, k ≤ R ∧ i = .int .i64 k ∧ Below w.heap.size w wr ∧ ∃ cs, wr.ownsRow w.heap.size 2 1 (.slice (some ⟨w.heap.size, 0, none⟩) R R) R cs ∧ (∀ j, j < k → cs[j]? = some (.int .i64 (siluZ (rowZ up n3 xs j)))) ∧ ∀ j, k ≤ j → j < R → cs[j]? = some (.int .i64 (rowZ up n3 xs j))) (fun i _ => R - (intOf i).toNat)
  case atStart => exact ⟨0, Nat.zero_le _, rfl, hb1, _, ho1, fun j hj => by omega, fun j _ hj => hc1 j hj⟩
  case round =>
    clear hc1 ho1 hb1
    obtain ⟨k, hk, rfl, hbr, cs, ho, g1, g2⟩ := hrel
    by_cases hlt : k < R
    · have hlen := own_length ho
      have cell : wr.cell? ⟨w.heap.size, k, none⟩ = some (.int .i64 (rowZ up n3 xs k)) := (ho.cellAt k (by omega)).trans (g2 k (Nat.le_refl _) hlt)
      have wZ : (Lit.int .i64 (rowZ up n3 xs k)).wf = true := wf_clampZ _
      have ks := fun W => silu_call (rowZ up n3 xs k) wZ W
      have step := fun (W : World) (hs : W.ownsRow w.heap.size 2 1 (.slice (some ⟨w.heap.size, 0, none⟩) R R) R cs) => And.intro (hs.stored k (.int .i64 (siluZ (rowZ up n3 xs k)))).1 (And.intro (set_step (F := fun j => Value.int .i64 (siluZ (rowZ up n3 xs j))) hlen hlt rfl g1) (fun i (h : k + 1 ≤ i) (hi : i < R) => show (cs.set k (Value.int .i64 (siluZ (rowZ up n3 xs k))))[i]? = some (Value.int .i64 (rowZ up n3 xs i)) from by rw [List.getElem?_set_ne (by omega)]; exact g2 i (by omega) hi))
      have hu : cs[k]? = some (.int .i64 (rowZ up n3 xs k)) := g2 k (Nat.le_refl _) hlt
      obtain ⟨Z, eZ⟩ : ∃ Z, rowZ up n3 xs k = Z := ⟨_, rfl⟩
      rw [eZ] at cell ks step hu
      obtain ⟨E, eE⟩ : ∃ E, siluZ Z = E := ⟨_, rfl⟩
      rw [eE] at ks step
      clear eZ eE wZ g1 g2
      go_wp2_with (go_at_call 44; refine (ks _).mono ?_; rintro e W2 ⟨rfl, hb2⟩
                   have ho2 := own_below ho hb2
                   have cell2 : W2.cell? ⟨w.heap.size, k, none⟩ = some (.int .i64 Z) := (ho2.cellAt k (by omega)).trans hu
                   have froz2 := ho2.frozenAt k
                   have R0 : Below w.heap.size w (W2.setCell ⟨w.heap.size, k, none⟩ (.int .i64 E)) := (below_then hbr hb2).setCell (Nat.le_refl _) _
                   have R' := hidden_ (And.intro R0 (step W2 ho2))
                   clear R0
                   clear ho2 hb2)
      go_roundw
      case rel => exact ⟨k + 1, by omega, by go_num, R'.out.1, _, R'.out.2.1, R'.out.2.2.1, R'.out.2.2.2⟩
      case measure => simp [intOf]; omega
    · have e : k = R := by omega
      subst e
      have hr1 : Reads .i64 wr (some ⟨w.heap.size, 0, none⟩) k (hidL up xs) := own_reads_at ho Eh.out.1 (fun z hz => by
        obtain ⟨y, _, rfl⟩ := List.mem_map.1 hz
        exact wf_siluZ y) (fun j hj => by rw [g1 j hj, Eh.out.2 j hj])
      clear g1 g2 ho
      have kd := mat_yes a1 n1 c1 down (n3 : Int) (some ⟨w.heap.size, 0, none⟩) k k (hidL up xs) wr (h1.below hbr) l1 hr1 f2 b1
      have en : n1 / k = n3 := by have := (fitB_yes f2).2.2; omega
      rw [en] at kd
      have hsz := hbr.size
      clear f2 en
      go_wp2_with (first
        | (go_at_call 38; refine kd.mono ?_; rintro e w2 ⟨⟨cs2, rfl, hr2, ho2, -⟩, hb2⟩)
        | (go_at_call 37; refine (must_yes _ _ _ _).mono ?_; rintro e w' ⟨rfl, hq⟩; obtain rfl := hq.symm))
      go_ret
      exact ⟨⟨_, rfl, hr2, hsz, (ho2.lt _ rfl).2⟩, below_then hbr hb2⟩

set_option maxHeartbeats 1000000 in
theorem one_late (a0 : Option Addr) (n0 c0 : Nat) (up : List Int) (a1 : Option Addr) (n1 c1 : Nat) (down : List Int) (h : Int) (a3 : Option Addr) (n3 c3 : Nat) (xs : List Int) (w : World) (h0 : Reads .i8 w a0 n0 up) (l0 : n0 ≤ c0) (h1 : Reads .i8 w a1 n1 down) (l1 : n1 ≤ c1) (h3 : Reads .i64 w a3 n3 xs) (wh : (Lit.int .i64 h).wf = true) (b0 : n0 * 8 ≤ 140737488355328) (b1 : n1 * 8 ≤ 140737488355328) (f1 : fitB n0 h n3 = true) (f2 : fitB down.length (xs.length : Int) (hidL up xs).length = false) :
    Calls Try.prog 32 #[.slice a0 n0 c0, .slice a1 n1 c1, .int .i64 h, .slice a3 n3 c3] w fun e w' => e = .panicked [{ v := .iface 28 (.int .i64 21), recovered := false }] ∧ Below w.heap.size w w' := by
  have ku := mat_yes a0 n0 c0 up h a3 n3 c3 xs w h0 l0 h3 f1 b0
  have hle := Nat.div_le_self n0 n3
  have hm3 := h3.max
  have hm1 := h1.max
  obtain ⟨R, eR⟩ : ∃ R, n0 / n3 = R := ⟨_, rfl⟩
  have eh : (hidL up xs).length = R := by rw [hidL_length, h0.len, h3.len, eR]
  rw [eR] at ku hle
  rw [h1.len, h3.len, eh] at f2
  have ha : ∀ j, j < R → (hidL up xs).getD j 0 = siluZ (rowZ up n3 xs j) := fun j hj => by
    rw [hidL_at _ _ _ (by rw [h0.len, h3.len, eR]; exact hj), h3.len]
  have Eh := hidden_ (And.intro eh ha)
  clear eR f1 eh ha
  have hRm : R ≤ 9223372036854775807 := by omega
  go_enter Try.func32, Try.ntmps32
  go_wp2_with (first
    | (go_at_call 38; refine ku.mono ?_; rintro e w1 ⟨⟨cs0, rfl, hr1, ho1, hc1⟩, hb1⟩)
    | (go_at_call 37; refine (must_yes _ _ _ _).mono ?_; rintro e w' ⟨rfl, hq⟩; obtain rfl := hq.symm))
  clear ku hr1
  go_loopw [21] (fun i wr => ∃ k : Nat, k ≤ R ∧ i = .int .i64 k ∧ Below w.heap.size w wr ∧ ∃ cs, wr.ownsRow w.heap.size 2 1 (.slice (some ⟨w.heap.size, 0, none⟩) R R) R cs ∧ (∀ j, j < k → cs[j]? = some (.int .i64 (siluZ (rowZ up n3 xs j)))) ∧ ∀ j, k ≤ j → j < R → cs[j]? = some (.int .i64 (rowZ up n3 xs j))) (fun i _ => R - (intOf i).toNat)
  case atStart => exact ⟨0, Nat.zero_le _, rfl, hb1, _, ho1, fun j hj => by omega, fun j _ hj => hc1 j hj⟩
  case round =>
    clear hc1 ho1 hb1
    obtain ⟨k, hk, rfl, hbr, cs, ho, g1, g2⟩ := hrel
    by_cases hlt : k < R
    · have hlen := own_length ho
      have cell : wr.cell? ⟨w.heap.size, k, none⟩ = some (.int .i64 (rowZ up n3 xs k)) := (ho.cellAt k (by omega)).trans (g2 k (Nat.le_refl _) hlt)
      have wZ : (Lit.int .i64 (rowZ up n3 xs k)).wf = true := wf_clampZ _
      have ks := fun W => silu_call (rowZ up n3 xs k) wZ W
      have step := fun (W : World) (hs : W.ownsRow w.heap.size 2 1 (.slice (some ⟨w.heap.size, 0, none⟩) R R) R cs) => And.intro (hs.stored k (.int .i64 (siluZ (rowZ up n3 xs k)))).1 (And.intro (set_step (F := fun j => Value.int .i64 (siluZ (rowZ up n3 xs j))) hlen hlt rfl g1) (fun i (h : k + 1 ≤ i) (hi : i < R) => show (cs.set k (Value.int .i64 (siluZ (rowZ up n3 xs k))))[i]? = some (Value.int .i64 (rowZ up n3 xs i)) from by rw [List.getElem?_set_ne (by omega)]; exact g2 i (by omega) hi))
      have hu : cs[k]? = some (.int .i64 (rowZ up n3 xs k)) := g2 k (Nat.le_refl _) hlt
      obtain ⟨Z, eZ⟩ : ∃ Z, rowZ up n3 xs k = Z := ⟨_, rfl⟩
      rw [eZ] at cell ks step hu
      obtain ⟨E, eE⟩ : ∃ E, siluZ Z = E := ⟨_, rfl⟩
      rw [eE] at ks step
      clear eZ eE wZ g1 g2
      go_wp2_with (go_at_call 44; refine (ks _).mono ?_; rintro e W2 ⟨rfl, hb2⟩
                   have ho2 := own_below ho hb2
                   have cell2 : W2.cell? ⟨w.heap.size, k, none⟩ = some (.int .i64 Z) := (ho2.cellAt k (by omega)).trans hu
                   have froz2 := ho2.frozenAt k
                   have R0 : Below w.heap.size w (W2.setCell ⟨w.heap.size, k, none⟩ (.int .i64 E)) := (below_then hbr hb2).setCell (Nat.le_refl _) _
                   have R' := hidden_ (And.intro R0 (step W2 ho2))
                   clear R0
                   clear ho2 hb2)
      go_roundw
      case rel => exact ⟨k + 1, by omega, by go_num, R'.out.1, _, R'.out.2.1, R'.out.2.2.1, R'.out.2.2.2⟩
      case measure => simp [intOf]; omega
    · have e : k = R := by omega
      subst e
      have hr1 : Reads .i64 wr (some ⟨w.heap.size, 0, none⟩) k (hidL up xs) := own_reads_at ho Eh.out.1 (fun z hz => by
        obtain ⟨y, _, rfl⟩ := List.mem_map.1 hz
        exact wf_siluZ y) (fun j hj => by rw [g1 j hj, Eh.out.2 j hj])
      clear g1 g2 ho
      have kd := mat_no a1 n1 c1 (n3 : Int) (some ⟨w.heap.size, 0, none⟩) k k wr hm1 hRm (WalkArith.wf_i64 ⟨by omega, by omega⟩) f2
      go_wp2_with (first
        | (go_at_call 38; refine kd.mono ?_; rintro e w2 ⟨rfl, hq⟩; obtain rfl := hq.symm)
        | (go_at_call 37; refine (must_no _ _ _ 21 (by decide) _).mono ?_; rintro e w' ⟨rfl, hq⟩; obtain rfl := hq.symm))
      exact ⟨rfl, rfl, hbr⟩

theorem one_early (a0 : Option Addr) (n0 c0 : Nat) (up : List Int) (a1 : Option Addr) (n1 c1 : Nat) (down : List Int) (h : Int) (a3 : Option Addr) (n3 c3 : Nat) (xs : List Int) (w : World) (h0 : Reads .i8 w a0 n0 up) (l0 : n0 ≤ c0) (h1 : Reads .i8 w a1 n1 down) (l1 : n1 ≤ c1) (h3 : Reads .i64 w a3 n3 xs) (wh : (Lit.int .i64 h).wf = true) (b0 : n0 * 8 ≤ 140737488355328) (b1 : n1 * 8 ≤ 140737488355328) (f1 : fitB n0 h n3 = false) :
    Calls Try.prog 32 #[.slice a0 n0 c0, .slice a1 n1 c1, .int .i64 h, .slice a3 n3 c3] w fun e w' => e = .panicked [{ v := .iface 28 (.int .i64 21), recovered := false }] ∧ Below w.heap.size w w' := by
  have ku := mat_no a0 n0 c0 h a3 n3 c3 w h0.max h3.max wh f1
  go_enter Try.func32, Try.ntmps32
  go_wp2_with (first
    | (go_at_call 38; refine ku.mono ?_; rintro e w2 ⟨rfl, hq⟩; obtain rfl := hq.symm)
    | (go_at_call 37; refine (must_no _ _ _ 21 (by decide) _).mono ?_; rintro e w' ⟨rfl, hq⟩; obtain rfl := hq.symm))
  exact ⟨rfl, rfl, Below.refl _ _⟩

theorem one_no (a0 : Option Addr) (n0 c0 : Nat) (up : List Int) (a1 : Option Addr) (n1 c1 : Nat) (down : List Int) (h : Int) (a3 : Option Addr) (n3 c3 : Nat) (xs : List Int) (w : World) (h0 : Reads .i8 w a0 n0 up) (l0 : n0 ≤ c0) (h1 : Reads .i8 w a1 n1 down) (l1 : n1 ≤ c1) (h3 : Reads .i64 w a3 n3 xs) (wh : (Lit.int .i64 h).wf = true) (b0 : n0 * 8 ≤ 140737488355328) (b1 : n1 * 8 ≤ 140737488355328) (hf : oneB up down h xs = false) :
    Calls Try.prog 32 #[.slice a0 n0 c0, .slice a1 n1 c1, .int .i64 h, .slice a3 n3 c3] w fun e w' => e = .panicked [{ v := .iface 28 (.int .i64 21), recovered := false }] ∧ Below w.heap.size w w' := by
  have hf' : (fitB up.length h xs.length && fitB down.length (xs.length : Int) (hidL up xs).length) = false := hf
  rw [h0.len, h3.len] at hf'
  cases f1 : fitB n0 h n3 with
  | false => exact one_early a0 n0 c0 up a1 n1 c1 down h a3 n3 c3 xs w h0 l0 h1 l1 h3 wh b0 b1 f1
  | true =>
    rw [f1, Bool.true_and] at hf'
    exact one_late a0 n0 c0 up a1 n1 c1 down h a3 n3 c3 xs w h0 l0 h1 l1 h3 wh b0 b1 f1 (by rw [h3.len]; exact hf')

end Go.Proofs.Ytlpmndlefbghoaa
