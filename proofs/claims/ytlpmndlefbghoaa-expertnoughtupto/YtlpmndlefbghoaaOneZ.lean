/- Texts put together: XpOne, XpFace. -/
import Derived.Test.YtlpmndlefbghoaaRows
import Derived.Test.YtlpmndlefbghoaaView
import Derived.Test.YtlpmndlefbghoaaOwn
import Derived.Test.YtlpmndlefbghoaaSat
import Derived.Test.YtlpmndlefbghoaaExp
import Derived.Test.YtlpmndlefbghoaaSilu
import Derived.Test.YtlpmndlefbghoaaFitZ
import Derived.Test.YtlpmndlefbghoaaMats
import Derived.Test.YtlpmndlefbghoaaSoft
import Derived.Test.YtlpmndlefbghoaaHeld
import Derived.Test.YtlpmndlefbghoaaXpNeed
import Derived.Test.YtlpmndlefbghoaaAskZ
import Derived.WalkKit
import Derived.ProofKit
import Derived.OpenShut
import Derived.Below
import Derived.WalkLawsBesides
import Derived.Deep.QuietTactic
import Derived.BigQuiet
import Derived.Defers
import Derived.Recover
import Derived.Laws.Pointers
namespace Go.Proofs.Ytlpmndlefbghoaa

/- What one network makes of a row, or that an error is thrown: the contract of the inner call. -/
section
open Go.ChangeShapes Go.WideShapes Go.ChangeAt Go.RowKit
set_option linter.unusedVariables false
set_option linter.unusedSimpArgs false

theorem wf_siluZ (y : Int) : (Lit.int .i64 (siluZ y)).wf = true := wf_clampZ _

set_option maxHeartbeats 1000000 in
theorem one_yes (a0 : Option Addr) (n0 c0 : Nat) (up : List Int) (a1 : Option Addr) (n1 c1 : Nat) (down : List Int) (h : Int) (a3 : Option Addr) (n3 c3 : Nat) (xs : List Int) (w : World) (h0 : Reads .i8 w a0 n0 up) (l0 : n0 ≤ c0) (h1 : Reads .i8 w a1 n1 down) (l1 : n1 ≤ c1) (h3 : Reads .i64 w a3 n3 xs) (wh : (Lit.int .i64 h).wf = true) (b0 : n0 * 8 ≤ 140737488355328) (b1 : n1 * 8 ≤ 140737488355328) (hf : oneB up down h xs = true) :
    Calls Try.prog 32 #[.slice a0 n0 c0, .slice a1 n1 c1, .int .i64 h, .slice a3 n3 c3] w fun e w' => (∃ a, e = .returned (.slice (some a) n3 n3) ∧ Reads .i64 w' (some a) n3 (oneL up down xs) ∧ w.heap.size ≤ a.block ∧ a.block < w'.heap.size) ∧ Below w.heap.size w w' := by
  obtain ⟨f1, f2⟩ := Bool.and_eq_true _ _ ▸ (show (fitB up.length h xs.length && fitB down.length (xs.length : Int) (hidL up xs).length) = true from hf)
  have el := oneL_length hf
  rw [h3.len] at el
  rw [h0.len, h3.len] at f1
  clear hf
  have ku := mat_yes a0 n0 c0 up h a3 n3 c3 xs w h0 l0 h3 f1 b0
  have hle := Nat.div_le_self n0 n3
  have hm3 := h3.max
  have hm1 := h1.max
  obtain ⟨R, eR⟩ : ∃ R, n0 / n3 = R := ⟨_, rfl⟩
  have eh : (hidL up xs).length = R := by rw [hidL_length, h0.len, h3.len, eR]
  rw [eR] at ku hle
  rw [h1.len, h3.len, eh] at f2
  have ha : ∀ j, j < R → (hidL up xs).getD j 0 = siluZ (rowZ up n3 xs j) := fun j hj => by
    rw [hidL_at _ _ _ (by rw [h0.len, h3.len, eR]; exact hj), h3.len]
  have Eh := hidden_ (And.intro eh ha)
  clear eR f1 eh ha
  have hRm : R ≤ 9223372036854775807 := by omega
  go_enter Try.func32, Try.ntmps32
  go_wp2_with (first
    | (go_at_call 38; refine ku.mono ?_; rintro e w1 ⟨⟨cs0, rfl, hr1, ho1, hc1⟩, hb1⟩)
    | (go_at_call 37; refine (must_yes _ _ _ _).mono ?_; rintro e w' ⟨rfl, hq⟩; obtain rfl := hq.symm))
  clear ku hr1
  go_loopw [21] (fun i wr => ∃ k : Nat, k ≤ R ∧ i = .int .i64 k ∧ Below w.heap.size w wr ∧ ∃ cs, wr.ownsRow w.heap.size 2 1 (.slice (some ⟨w.heap.size, 0, none⟩) R R) R cs ∧ (∀ j, j < k → cs[j]? = some (.int .i64 (siluZ (rowZ up n3 xs j)))) ∧ ∀ j, k ≤ j → j < R → cs[j]? = some (.int .i64 (rowZ up n3 xs j))) (fun i _ => R - (intOf i).toNat)
  case atStart => exact ⟨0, Nat.zero_le _, rfl, hb1, _, ho1, fun j hj => by omega, fun j _ hj => hc1 j hj⟩
  case round =>
    clear hc1 ho1 hb1
    obtain ⟨k, hk, rfl, hbr, cs, ho, g1, g2⟩ := hrel
    by_cases hlt : k < R
    · have hlen := own_length ho
      have cell : wr.cell? ⟨w.heap.size, k, none⟩ = some (.int .i64 (rowZ up n3 xs k)) := (ho.cellAt k (by omega)).trans (g2 k (Nat.le_refl _) hlt)
      have wZ : (Lit.int .i64 (rowZ up n3 xs k)).wf = true := wf_clampZ _
      have ks := fun W => silu_call (rowZ up n3 xs k) wZ W
      have step := fun (W : World) (hs : W.ownsRow w.heap.size 2 1 (.slice (some ⟨w.heap.size, 0, none⟩) R R) R cs) => And.intro (hs.stored k (.int .i64 (siluZ (rowZ up n3 xs k)))).1 (And.intro (set_step (F := fun j => Value.int .i64 (siluZ (rowZ up n3 xs j))) hlen hlt rfl g1) (fun i (h : k + 1 ≤ i) (hi : i < R) => show (cs.set k (Value.int .i64 (siluZ (rowZ up n3 xs k))))[i]? = some (Value.int .i64 (rowZ up n3 xs i)) from by rw [List.getElem?_set_ne (by omega)]; exact g2 i (by omega) hi))
      have hu : cs[k]? = some (.int .i64 (rowZ up n3 xs k)) := g2 k (Nat.le_refl _) hlt
      obtain ⟨Z, eZ⟩ : ∃ Z, rowZ up n3 xs k = Z := ⟨_, rfl⟩
      rw [eZ] at cell ks step hu
      obtain ⟨E, eE⟩ : ∃ E, siluZ Z = E := ⟨_, rfl⟩
      rw [eE] at ks step
      clear eZ eE wZ g1 g2
      go_wp2_with (go_at_call 44; refine (ks _).mono ?_; rintro e W2 ⟨rfl, hb2⟩
                   have ho2 := own_below ho hb2
                   have cell2 : W2.cell? ⟨w.heap.size, k, none⟩ = some (.int .i64 Z) := (ho2.cellAt k (by omega)).trans hu
                   have froz2 := ho2.frozenAt k
                   have R0 : Below w.heap.size w (W2.setCell ⟨w.heap.size, k, none⟩ (.int .i64 E)) := (below_then hbr hb2).setCell (Nat.le_refl _) _
                   have R' := hidden_ (And.intro R0 (step W2 ho2))
                   clear R0
                   clear ho2 hb2)
      go_roundw
      case rel => exact ⟨k + 1, by omega, by go_num, R'.out.1, _, R'.out.2.1, R'.out.2.2.1, R'.out.2.2.2⟩
      case measure => simp [intOf]; omega
    · have e : k = R := by omega
      subst e
      have hr1 : Reads .i64 wr (some ⟨w.heap.size, 0, none⟩) k (hidL up xs) := own_reads_at ho Eh.out.1 (fun z hz => by
        obtain ⟨y, _, rfl⟩ := List.mem_map.1 hz
        exact wf_siluZ y) (fun j hj => by rw [g1 j hj, Eh.out.2 j hj])
      clear g1 g2 ho
      have kd := mat_yes a1 n1 c1 down (n3 : Int) (some ⟨w.heap.size, 0, none⟩) k k (hidL up xs) wr (h1.below hbr) l1 hr1 f2 b1
      have en : n1 / k = n3 := by have := (fitB_yes f2).2.2; omega
      rw [en] at kd
      have hsz := hbr.size
      clear f2 en
      go_wp2_with (first
        | (go_at_call 38; refine kd.mono ?_; rintro e w2 ⟨⟨cs2, rfl, hr2, ho2, -⟩, hb2⟩)
        | (go_at_call 37; refine (must_yes _ _ _ _).mono ?_; rintro e w' ⟨rfl, hq⟩; obtain rfl := hq.symm))
      go_ret
      exact ⟨⟨_, rfl, hr2, hsz, (ho2.lt _ rfl).2⟩, below_then hbr hb2⟩

set_option maxHeartbeats 1000000 in
theorem one_late (a0 : Option Addr) (n0 c0 : Nat) (up : List Int) (a1 : Option Addr) (n1 c1 : Nat) (down : List Int) (h : Int) (a3 : Option Addr) (n3 c3 : Nat) (xs : List Int) (w : World) (h0 : Reads .i8 w a0 n0 up) (l0 : n0 ≤ c0) (h1 : Reads .i8 w a1 n1 down) (l1 : n1 ≤ c1) (h3 : Reads .i64 w a3 n3 xs) (wh : (Lit.int .i64 h).wf = true) (b0 : n0 * 8 ≤ 140737488355328) (b1 : n1 * 8 ≤ 140737488355328) (f1 : fitB n0 h n3 = true) (f2 : fitB down.length (xs.length : Int) (hidL up xs).length = false) :
    Calls Try.prog 32 #[.slice a0 n0 c0, .slice a1 n1 c1, .int .i64 h, .slice a3 n3 c3] w fun e w' => e = .panicked [{ v := .iface 28 (.int .i64 21), recovered := false }] ∧ Below w.heap.size w w' := by
  have ku := mat_yes a0 n0 c0 up h a3 n3 c3 xs w h0 l0 h3 f1 b0
  have hle := Nat.div_le_self n0 n3
  have hm3 := h3.max
  have hm1 := h1.max
  obtain ⟨R, eR⟩ : ∃ R, n0 / n3 = R := ⟨_, rfl⟩
  have eh : (hidL up xs).length = R := by rw [hidL_length, h0.len, h3.len, eR]
  rw [eR] at ku hle
  rw [h1.len, h3.len, eh] at f2
  have ha : ∀ j, j < R → (hidL up xs).getD j 0 = siluZ (rowZ up n3 xs j) := fun j hj => by
    rw [hidL_at _ _ _ (by rw [h0.len, h3.len, eR]; exact hj), h3.len]
  have Eh := hidden_ (And.intro eh ha)
  clear eR f1 eh ha
  have hRm : R ≤ 9223372036854775807 := by omega
  go_enter Try.func32, Try.ntmps32
  go_wp2_with (first
    | (go_at_call 38; refine ku.mono ?_; rintro e w1 ⟨⟨cs0, rfl, hr1, ho1, hc1⟩, hb1⟩)
    | (go_at_call 37; refine (must_yes _ _ _ _).mono ?_; rintro e w' ⟨rfl, hq⟩; obtain rfl := hq.symm))
  clear ku hr1
  go_loopw [21] (fun i wr => ∃ k : Nat, k ≤ R ∧ i = .int .i64 k ∧ Below w.heap.size w wr ∧ ∃ cs, wr.ownsRow w.heap.size 2 1 (.slice (some ⟨w.heap.size, 0, none⟩) R R) R cs ∧ (∀ j, j < k → cs[j]? = some (.int .i64 (siluZ (rowZ up n3 xs j)))) ∧ ∀ j, k ≤ j → j < R → cs[j]? = some (.int .i64 (rowZ up n3 xs j))) (fun i _ => R - (intOf i).toNat)
  case atStart => exact ⟨0, Nat.zero_le _, rfl, hb1, _, ho1, fun j hj => by omega, fun j _ hj => hc1 j hj⟩
  case round =>
    clear hc1 ho1 hb1
    obtain ⟨k, hk, rfl, hbr, cs, ho, g1, g2⟩ := hrel
    by_cases hlt : k < R
    · have hlen := own_length ho
      have cell : wr.cell? ⟨w.heap.size, k, none⟩ = some (.int .i64 (rowZ up n3 xs k)) := (ho.cellAt k (by omega)).trans (g2 k (Nat.le_refl _) hlt)
      have wZ : (Lit.int .i64 (rowZ up n3 xs k)).wf = true := wf_clampZ _
      have ks := fun W => silu_call (rowZ up n3 xs k) wZ W
      have step := fun (W : World) (hs : W.ownsRow w.heap.size 2 1 (.slice (some ⟨w.heap.size, 0, none⟩) R R) R cs) => And.intro (hs.stored k (.int .i64 (siluZ (rowZ up n3 xs k)))).1 (And.intro (set_step (F := fun j => Value.int .i64 (siluZ (rowZ up n3 xs j))) hlen hlt rfl g1) (fun i (h : k + 1 ≤ i) (hi : i < R) => show (cs.set k (Value.int .i64 (siluZ (rowZ up n3 xs k))))[i]? = some (Value.int .i64 (rowZ up n3 xs i)) from by rw [List.getElem?_set_ne (by omega)]; exact g2 i (by omega) hi))
      have hu : cs[k]? = some (.int .i64 (rowZ up n3 xs k)) := g2 k (Nat.le_refl _) hlt
      obtain ⟨Z, eZ⟩ : ∃ Z, rowZ up n3 xs k = Z := ⟨_, rfl⟩
      rw [eZ] at cell ks step hu
      obtain ⟨E, eE⟩ : ∃ E, siluZ Z = E := ⟨_, rfl⟩
      rw [eE] at ks step
      clear eZ eE wZ g1 g2
      go_wp2_with (go_at_call 44; refine (ks _).mono ?_; rintro e W2 ⟨rfl, hb2⟩
                   have ho2 := own_below ho hb2
                   have cell2 : W2.cell? ⟨w.heap.size, k, none⟩ = some (.int .i64 Z) := (ho2.cellAt k (by omega)).trans hu
                   have froz2 := ho2.frozenAt k
                   have R0 : Below w.heap.size w (W2.setCell ⟨w.heap.size, k, none⟩ (.int .i64 E)) := (below_then hbr hb2).setCell (Nat.le_refl _) _
                   have R' := hidden_ (And.intro R0 (step W2 ho2))
                   clear R0
                   clear ho2 hb2)
      go_roundw
      case rel => exact ⟨k + 1, by omega, by go_num, R'.out.1, _, R'.out.2.1, R'.out.2.2.1, R'.out.2.2.2⟩
      case measure => simp [intOf]; omega
    · have e : k = R := by omega
      subst e
      have hr1 : Reads .i64 wr (some ⟨w.heap.size, 0, none⟩) k (hidL up xs) := own_reads_at ho Eh.out.1 (fun z hz => by
        obtain ⟨y, _, rfl⟩ := List.mem_map.1 hz
        exact wf_siluZ y) (fun j hj => by rw [g1 j hj, Eh.out.2 j hj])
      clear g1 g2 ho
      have kd := mat_no a1 n1 c1 (n3 : Int) (some ⟨w.heap.size, 0, none⟩) k k wr hm1 hRm (WalkArith.wf_i64 ⟨by omega, by omega⟩) f2
      go_wp2_with (first
        | (go_at_call 38; refine kd.mono ?_; rintro e w2 ⟨rfl, hq⟩; obtain rfl := hq.symm)
        | (go_at_call 37; refine (must_no _ _ _ 21 (by decide) _).mono ?_; rintro e w' ⟨rfl, hq⟩; obtain rfl := hq.symm))
      exact ⟨rfl, rfl, hbr⟩

theorem one_early (a0 : Option Addr) (n0 c0 : Nat) (up : List Int) (a1 : Option Addr) (n1 c1 : Nat) (down : List Int) (h : Int) (a3 : Option Addr) (n3 c3 : Nat) (xs : List Int) (w : World) (h0 : Reads .i8 w a0 n0 up) (l0 : n0 ≤ c0) (h1 : Reads .i8 w a1 n1 down) (l1 : n1 ≤ c1) (h3 : Reads .i64 w a3 n3 xs) (wh : (Lit.int .i64 h).wf = true) (b0 : n0 * 8 ≤ 140737488355328) (b1 : n1 * 8 ≤ 140737488355328) (f1 : fitB n0 h n3 = false) :
    Calls Try.prog 32 #[.slice a0 n0 c0, .slice a1 n1 c1, .int .i64 h, .slice a3 n3 c3] w fun e w' => e = .panicked [{ v := .iface 28 (.int .i64 21), recovered := false }] ∧ Below w.heap.size w w' := by
  have ku := mat_no a0 n0 c0 h a3 n3 c3 w h0.max h3.max wh f1
  go_enter Try.func32, Try.ntmps32
  go_wp2_with (first
    | (go_at_call 38; refine ku.mono ?_; rintro e w2 ⟨rfl, hq⟩; obtain rfl := hq.symm)
    | (go_at_call 37; refine (must_no _ _ _ 21 (by decide) _).mono ?_; rintro e w' ⟨rfl, hq⟩; obtain rfl := hq.symm))
  exact ⟨rfl, rfl, Below.refl _ _⟩

theorem one_no (a0 : Option Addr) (n0 c0 : Nat) (up : List Int) (a1 : Option Addr) (n1 c1 : Nat) (down : List Int) (h : Int) (a3 : Option Addr) (n3 c3 : Nat) (xs : List Int) (w : World) (h0 : Reads .i8 w a0 n0 up) (l0 : n0 ≤ c0) (h1 : Reads .i8 w a1 n1 down) (l1 : n1 ≤ c1) (h3 : Reads .i64 w a3 n3 xs) (wh : (Lit.int .i64 h).wf = true) (b0 : n0 * 8 ≤ 140737488355328) (b1 : n1 * 8 ≤ 140737488355328) (hf : oneB up down h xs = false) :
    Calls Try.prog 32 #[.slice a0 n0 c0, .slice a1 n1 c1, .int .i64 h, .slice a3 n3 c3] w fun e w' => e = .panicked [{ v := .iface 28 (.int .i64 21), recovered := false }] ∧ Below w.heap.size w w' := by
  have hf' : (fitB up.length h xs.length && fitB down.length (xs.length : Int) (hidL up xs).length) = false := hf
  rw [h0.len, h3.len] at hf'
  cases f1 : fitB n0 h n3 with
  | false => exact one_early a0 n0 c0 up a1 n1 c1 down h a3 n3 c3 xs w h0 l0 h1 l1 h3 wh b0 b1 f1
  | true =>
    rw [f1, Bool.true_and] at hf'
    exact one_late a0 n0 c0 up a1 n1 c1 down h a3 n3 c3 xs w h0 l0 h1 l1 h3 wh b0 b1 f1 (by rw [h3.len]; exact hf')
end

/- What one network makes of a row, at the face: what is thrown is told as the error. -/
section
open Go.ChangeShapes Go.WideShapes Go.ChangeAt Go.RowKit
set_option linter.unusedVariables false
set_option linter.unusedSimpArgs false

theorem Reads.setOff {k : IntKind} {W : World} {a p : Addr} {n : Nat} {zs : List Int} (h : Reads k W (some a) n zs) (hp : p.block ≠ a.block) (v : Value) : Reads k (W.setCell p v) (some a) n zs :=
  ⟨h.len, h.max, h.wf, h.some_, fun x hx i hi => by
    obtain rfl := Option.some.inj hx
    rw [World.cell?_setCell_other _ _ _ _ (fun e => hp (by rw [e]; unfold Addr.add; split <;> rfl))]
    exact h.cell a rfl i hi⟩

/-- the variable of a call's error, and what a call that only lays new blocks leaves of it -/
theorem face_box {w W1 : World} (hb : Below (w.alloc (.cells #[.int .i64 0] 28)).heap.size (w.alloc (.cells #[.int .i64 0] 28)) W1) :
    W1.cell? ⟨w.heap.size, 0, none⟩ = some (.int .i64 0) ∧ W1.frozen? ⟨w.heap.size, 0, none⟩ = false ∧ Below w.heap.size w W1 := by
  have hs : w.heap.size < (w.alloc (.cells #[.int .i64 0] 28)).heap.size := by simp
  refine ⟨(hb.cell hs).trans (by rw [World.cell?_alloc_new]; rfl), (hb.frozen hs).trans (by simp), ?_⟩
  exact (below_new (Below.refl _ w) _).trans (hb.mono (by omega))

theorem One_yes (a0 : Option Addr) (n0 c0 : Nat) (up : List Int) (a1 : Option Addr) (n1 c1 : Nat) (down : List Int) (h : Int) (a3 : Option Addr) (n3 c3 : Nat) (xs : List Int) (w : World) (h0 : Reads .i8 w a0 n0 up) (l0 : n0 ≤ c0) (h1 : Reads .i8 w a1 n1 down) (l1 : n1 ≤ c1) (h3 : Reads .i64 w a3 n3 xs) (wh : (Lit.int .i64 h).wf = true) (b0 : n0 * 8 ≤ 140737488355328) (b1 : n1 * 8 ≤ 140737488355328) (hf : oneB up down h xs = true) :
    Calls Try.prog 16 #[.slice a0 n0 c0, .slice a1 n1 c1, .int .i64 h, .slice a3 n3 c3] w fun e w' => (∃ a, e = .returned (.tuple #[.slice (some a) n3 n3, .int .i64 0]) ∧ Reads .i64 w' (some a) n3 (oneL up down xs)) ∧ Below w.heap.size w w' := by
  have hmf : ∀ (fn : Fn) (first cap : Array Value) (w : World), (Instr.makeFunc fn first cap).run Try.prog w = .ok (.func fn first cap) w := fun _ _ _ _ => rfl
  have ko : Calls Try.prog 32 #[.slice a0 n0 c0, .slice a1 n1 c1, .int .i64 h, .slice a3 n3 c3] (w.alloc (.cells #[.int .i64 0] 28)) fun e W1 => ∃ a, e = .returned (.slice (some a) n3 n3) ∧ (W1.cell? ⟨w.heap.size, 0, none⟩ = some (.int .i64 0) ∧ W1.frozen? ⟨w.heap.size, 0, none⟩ = false) ∧
      Hid (∀ v v', Reads .i64 ((W1.setCell ⟨w.heap.size, 0, none⟩ v).setCell ⟨w.heap.size, 0, none⟩ v') (some a) n3 (oneL up down xs) ∧ Below w.heap.size w ((W1.setCell ⟨w.heap.size, 0, none⟩ v).setCell ⟨w.heap.size, 0, none⟩ v')) := by
    have bn := below_new (Below.refl w.heap.size w) (.cells #[.int .i64 0] 28)
    refine (one_yes a0 n0 c0 up a1 n1 c1 down h a3 n3 c3 xs _ (h0.below bn) l0 (h1.below bn) l1 (h3.below bn) wh b0 b1 hf).mono ?_
    rintro e W1 ⟨⟨a, rfl, hr, ha, -⟩, hb⟩
    obtain ⟨c1, c2, c3⟩ := face_box hb
    have ha' : w.heap.size < a.block := by simp at ha; omega
    exact ⟨a, rfl, ⟨c1, c2⟩, fun v v' => ⟨(hr.setOff (by simp; omega) v).setOff (by simp; omega) v', (c3.setCell (Nat.le_refl _) v).setCell (Nat.le_refl _) v'⟩⟩
  go_enter_defers Try.func16, Try.ntmps16
  go_wp2_with (go_at_call 32; refine ko.mono ?_; rintro e W1 ⟨a, rfl, ⟨c1, c2⟩, H⟩)
  refine leaves_cons (f := 31) (args := #[.pointer (some ⟨w.heap.size, 0, none⟩)]) (by simp) (by simp [go_sem]) ?_
  refine (catch_idle31 ⟨w.heap.size, 0, none⟩ 0 _ (World.cell?_setCell_same _ _ _ c1) (by simp [c2])).mono ?_
  rintro e u' w'' ⟨rfl, rfl, rfl⟩
  have c3 : ((W1.setCell ⟨w.heap.size, 0, none⟩ (.int .i64 0)).setCell ⟨w.heap.size, 0, none⟩ (.int .i64 0)).cell? ⟨w.heap.size, 0, none⟩ = some (.int .i64 0) := World.cell?_setCell_same _ _ _ (World.cell?_setCell_same _ _ _ c1)
  have H' := H.out (.int .i64 0) (.int .i64 0)
  generalize ((W1.setCell ⟨w.heap.size, 0, none⟩ (.int .i64 0)).setCell ⟨w.heap.size, 0, none⟩ (.int .i64 0)) = W2 at c3 H' ⊢
  simp [Leaves, settle, results, Try.results16, go_sem, c3]
  exact H'

theorem One_no (a0 : Option Addr) (n0 c0 : Nat) (up : List Int) (a1 : Option Addr) (n1 c1 : Nat) (down : List Int) (h : Int) (a3 : Option Addr) (n3 c3 : Nat) (xs : List Int) (w : World) (h0 : Reads .i8 w a0 n0 up) (l0 : n0 ≤ c0) (h1 : Reads .i8 w a1 n1 down) (l1 : n1 ≤ c1) (h3 : Reads .i64 w a3 n3 xs) (wh : (Lit.int .i64 h).wf = true) (b0 : n0 * 8 ≤ 140737488355328) (b1 : n1 * 8 ≤ 140737488355328) (hf : oneB up down h xs = false) :
    Calls Try.prog 16 #[.slice a0 n0 c0, .slice a1 n1 c1, .int .i64 h, .slice a3 n3 c3] w fun e w' => e = .returned (.tuple #[.slice none 0 0, .int .i64 21]) ∧ Below w.heap.size w w' := by
  have hmf : ∀ (fn : Fn) (first cap : Array Value) (w : World), (Instr.makeFunc fn first cap).run Try.prog w = .ok (.func fn first cap) w := fun _ _ _ _ => rfl
  have ko : Calls Try.prog 32 #[.slice a0 n0 c0, .slice a1 n1 c1, .int .i64 h, .slice a3 n3 c3] (w.alloc (.cells #[.int .i64 0] 28)) fun e W1 => e = .panicked [{ v := .iface 28 (.int .i64 21), recovered := false }] ∧ (W1.cell? ⟨w.heap.size, 0, none⟩ = some (.int .i64 0) ∧ W1.frozen? ⟨w.heap.size, 0, none⟩ = false) ∧ Below w.heap.size w W1 := by
    have bn := below_new (Below.refl w.heap.size w) (.cells #[.int .i64 0] 28)
    refine (one_no a0 n0 c0 up a1 n1 c1 down h a3 n3 c3 xs _ (h0.below bn) l0 (h1.below bn) l1 (h3.below bn) wh b0 b1 hf).mono ?_
    rintro e W1 ⟨rfl, hb⟩
    obtain ⟨c1, c2, c3⟩ := face_box hb
    exact ⟨rfl, ⟨c1, c2⟩, c3⟩
  go_enter_defers Try.func16, Try.ntmps16
  go_wp2_with (go_at_call 32; refine ko.mono ?_; rintro e W1 ⟨rfl, ⟨c1, c2⟩, hB⟩)
  refine leaves_cons (f := 31) (args := #[.pointer (some ⟨w.heap.size, 0, none⟩)]) (by simp) (by simp [go_sem]) ?_
  refine (catch_panic31 ⟨w.heap.size, 0, none⟩ 0 21 [] _ c1 c2).mono ?_
  rintro e u' w'' ⟨rfl, rfl, rfl⟩
  have c3 : (W1.setCell ⟨w.heap.size, 0, none⟩ (.int .i64 21)).cell? ⟨w.heap.size, 0, none⟩ = some (.int .i64 21) := World.cell?_setCell_same _ _ _ c1
  have H' : Below w.heap.size w (W1.setCell ⟨w.heap.size, 0, none⟩ (.int .i64 21)) := hB.setCell (Nat.le_refl _) _
  generalize (W1.setCell ⟨w.heap.size, 0, none⟩ (.int .i64 21)) = W2 at c3 H' ⊢
  simp [Leaves, settle, results, Try.results16, go_sem, c3]
  exact H'

theorem One_call (a0 : Option Addr) (n0 c0 : Nat) (up : List Int) (a1 : Option Addr) (n1 c1 : Nat) (down : List Int) (h : Int) (a3 : Option Addr) (n3 c3 : Nat) (xs : List Int) (w : World) (h0 : Reads .i8 w a0 n0 up) (l0 : n0 ≤ c0) (h1 : Reads .i8 w a1 n1 down) (l1 : n1 ≤ c1) (h3 : Reads .i64 w a3 n3 xs) (wh : (Lit.int .i64 h).wf = true) (b0 : n0 * 8 ≤ 140737488355328) (b1 : n1 * 8 ≤ 140737488355328) :
    Calls Try.prog 16 #[.slice a0 n0 c0, .slice a1 n1 c1, .int .i64 h, .slice a3 n3 c3] w fun e w' => (∃ a m c, e = .returned (.tuple #[.slice a m c, .int .i64 (if oneB up down h xs then 0 else 21)]) ∧ Reads .i64 w' a m (if oneB up down h xs then oneL up down xs else [])) ∧ Below w.heap.size w w' := by
  cases hf : oneB up down h xs with
  | true => exact (One_yes a0 n0 c0 up a1 n1 c1 down h a3 n3 c3 xs w h0 l0 h1 l1 h3 wh b0 b1 hf).mono fun e w' ⟨⟨a, he, hr⟩, hb⟩ => ⟨⟨some a, n3, n3, he, hr⟩, hb⟩
  | false => exact (One_no a0 n0 c0 up a1 n1 c1 down h a3 n3 c3 xs w h0 l0 h1 l1 h3 wh b0 b1 hf).mono fun e w' ⟨he, hb⟩ => ⟨⟨none, 0, 0, he, Reads.nil _ _⟩, hb⟩
end

end Go.Proofs.Ytlpmndlefbghoaa
