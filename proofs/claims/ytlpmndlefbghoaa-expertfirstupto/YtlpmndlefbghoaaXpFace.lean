/- What one network makes of a row, at the face: what is thrown is told as the error. -/
import Derived.Test.YtlpmndlefbghoaaRows
import Derived.Test.YtlpmndlefbghoaaView
import Derived.Test.YtlpmndlefbghoaaOwn
import Derived.Test.YtlpmndlefbghoaaSat
import Derived.Test.YtlpmndlefbghoaaExp
import Derived.Test.YtlpmndlefbghoaaDots
import Derived.Test.YtlpmndlefbghoaaMats
import Derived.Test.YtlpmndlefbghoaaHeld
import Derived.Test.YtlpmndlefbghoaaXpNeed
import Derived.Test.YtlpmndlefbghoaaXpPlain
import Derived.Test.YtlpmndlefbghoaaXpMat
import Derived.Test.YtlpmndlefbghoaaXpOne
import Derived.WalkKit
import Derived.ProofKit
import Derived.OpenShut
import Derived.Below
import Derived.WalkLawsBesides
import Derived.Deep.QuietTactic
import Derived.BigQuiet
import Derived.Defers
import Derived.Recover
import Derived.Laws.Pointers
namespace Go.Proofs.Ytlpmndlefbghoaa
open Go.ChangeShapes Go.WideShapes Go.ChangeAt Go.RowKit
set_option linter.unusedVariables false
set_option linter.unusedSimpArgs false

theorem Reads.setOff {k : IntKind} {W : World} {a p : Addr} {n : Nat} {zs : List Int} (h : Reads k W (some a) n zs) (hp : p.block ≠ a.block) (v : Value) : Reads k (W.setCell p v) (some a) n zs :=
  ⟨h.len, h.max, h.wf, h.some_, fun x hx i hi => by
    obtain rfl := Option.some.inj hx
    rw [World.cell?_setCell_other _ _ _ _ (fun e => hp (by rw [e]; unfold Addr.add; split <;> rfl))]
    exact h.cell a rfl i hi⟩

/-- the variable of a call's error, and what a call that only lays new blocks leaves of it -/
theorem face_box {w W1 : World} (hb : Below (w.alloc (.cells #[.int .i64 0] 28)).heap.size (w.alloc (.cells #[.int .i64 0] 28)) W1) :
    W1.cell? ⟨w.heap.size, 0, none⟩ = some (.int .i64 0) ∧ W1.frozen? ⟨w.heap.size, 0, none⟩ = false ∧ Below w.heap.size w W1 := by
  have hs : w.heap.size < (w.alloc (.cells #[.int .i64 0] 28)).heap.size := by simp
  refine ⟨(hb.cell hs).trans (by rw [World.cell?_alloc_new]; rfl), (hb.frozen hs).trans (by simp), ?_⟩
  exact (below_new (Below.refl _ w) _).trans (hb.mono (by omega))

theorem One_yes (a0 : Option Addr) (n0 c0 : Nat) (up : List Int) (a1 : Option Addr) (n1 c1 : Nat) (down : List Int) (h : Int) (a3 : Option Addr) (n3 c3 : Nat) (xs : List Int) (w : World) (h0 : Reads .i8 w a0 n0 up) (l0 : n0 ≤ c0) (h1 : Reads .i8 w a1 n1 down) (l1 : n1 ≤ c1) (h3 : Reads .i64 w a3 n3 xs) (wh : (Lit.int .i64 h).wf = true) (b0 : n0 * 8 ≤ 140737488355328) (b1 : n1 * 8 ≤ 140737488355328) (hf : oneB up down h xs = true) :
    Calls Try.prog 16 #[.slice a0 n0 c0, .slice a1 n1 c1, .int .i64 h, .slice a3 n3 c3] w fun e w' => (∃ a, e = .returned (.tuple #[.slice (some a) n3 n3, .int .i64 0]) ∧ Reads .i64 w' (some a) n3 (oneL up down xs)) ∧ Below w.heap.size w w' := by
  have hmf : ∀ (fn : Fn) (first cap : Array Value) (w : World), (Instr.makeFunc fn first cap).run Try.prog w = .ok (.func fn first cap) w := fun _ _ _ _ => rfl
  have ko : Calls Try.prog 32 #[.slice a0 n0 c0, .slice a1 n1 c1, .int .i64 h, .slice a3 n3 c3] (w.alloc (.cells #[.int .i64 0] 28)) fun e W1 => ∃ a, e = .returned (.slice (some a) n3 n3) ∧ (W1.cell? ⟨w.heap.size, 0, none⟩ = some (.int .i64 0) ∧ W1.frozen? ⟨w.heap.size, 0, none⟩ = false) ∧
      Hid (∀ v v', Reads .i64 ((W1.setCell ⟨w.heap.size, 0, none⟩ v).setCell ⟨w.heap.size, 0, none⟩ v') (some a) n3 (oneL up down xs) ∧ Below w.heap.size w ((W1.setCell ⟨w.heap.size, 0, none⟩ v).setCell ⟨w.heap.size, 0, none⟩ v')) := by
    have bn := below_new (Below.refl w.heap.size w) (.cells #[.int .i64 0] 28)
    refine (one_yes a0 n0 c0 up a1 n1 c1 down h a3 n3 c3 xs _ (h0.below bn) l0 (h1.below bn) l1 (h3.below bn) wh b0 b1 hf).mono ?_
    rintro e W1 ⟨⟨a, rfl, hr, ha, -⟩, hb⟩
    obtain ⟨c1, c2, c3⟩ := face_box hb
    have ha' : w.heap.size < a.block := by simp at ha; omega
    exact ⟨a, rfl, ⟨c1, c2⟩, fun v v' => ⟨(hr.setOff (by simp; omega) v).setOff (by simp; omega) v', (c3.setCell (Nat.le_refl _) v).setCell (Nat.le_refl _) v'⟩⟩
  go_enter_defers Try.func16, Try.ntmps16
  go_wp2_with (go_at_call 32; refine ko.mono ?_; rintro e W1 ⟨a, rfl, ⟨c1, c2⟩, H⟩)
  refine leaves_cons (f := 31) (args := #[.pointer (some ⟨w.heap.size, 0, none⟩)]) (by simp) (by simp [go_sem]) ?_
  refine (catch_idle31 ⟨w.heap.size, 0, none⟩ 0 _ (World.cell?_setCell_same _ _ _ c1) (by simp [c2])).mono ?_
  rintro e u' w'' ⟨rfl, rfl, rfl⟩
  have c3 : ((W1.setCell ⟨w.heap.size, 0, none⟩ (.int .i64 0)).setCell ⟨w.heap.size, 0, none⟩ (.int .i64 0)).cell? ⟨w.heap.size, 0, none⟩ = some (.int .i64 0) := World.cell?_setCell_same _ _ _ (World.cell?_setCell_same _ _ _ c1)
  have H' := H.out (.int .i64 0) (.int .i64 0)
  generalize ((W1.setCell ⟨w.heap.size, 0, none⟩ (.int .i64 0)).setCell ⟨w.heap.size, 0, none⟩ (.int .i64 0)) = W2 at c3 H' ⊢
  simp [Leaves, settle, results, Try.results16, go_sem, c3]
  exact H'

theorem One_no (a0 : Option Addr) (n0 c0 : Nat) (up : List Int) (a1 : Option Addr) (n1 c1 : Nat) (down : List Int) (h : Int) (a3 : Option Addr) (n3 c3 : Nat) (xs : List Int) (w : World) (h0 : Reads .i8 w a0 n0 up) (l0 : n0 ≤ c0) (h1 : Reads .i8 w a1 n1 down) (l1 : n1 ≤ c1) (h3 : Reads .i64 w a3 n3 xs) (wh : (Lit.int .i64 h).wf = true) (b0 : n0 * 8 ≤ 140737488355328) (b1 : n1 * 8 ≤ 140737488355328) (hf : oneB up down h xs = false) :
    Calls Try.prog 16 #[.slice a0 n0 c0, .slice a1 n1 c1, .int .i64 h, .slice a3 n3 c3] w fun e w' => e = .returned (.tuple #[.slice none 0 0, .int .i64 21]) ∧ Below w.heap.size w w' := by
  have hmf : ∀ (fn : Fn) (first cap : Array Value) (w : World), (Instr.makeFunc fn first cap).run Try.prog w = .ok (.func fn first cap) w := fun _ _ _ _ => rfl
  have ko : Calls Try.prog 32 #[.slice a0 n0 c0, .slice a1 n1 c1, .int .i64 h, .slice a3 n3 c3] (w.alloc (.cells #[.int .i64 0] 28)) fun e W1 => e = .panicked [{ v := .iface 28 (.int .i64 21), recovered := false }] ∧ (W1.cell? ⟨w.heap.size, 0, none⟩ = some (.int .i64 0) ∧ W1.frozen? ⟨w.heap.size, 0, none⟩ = false) ∧ Below w.heap.size w W1 := by
    have bn := below_new (Below.refl w.heap.size w) (.cells #[.int .i64 0] 28)
    refine (one_no a0 n0 c0 up a1 n1 c1 down h a3 n3 c3 xs _ (h0.below bn) l0 (h1.below bn) l1 (h3.below bn) wh b0 b1 hf).mono ?_
    rintro e W1 ⟨rfl, hb⟩
    obtain ⟨c1, c2, c3⟩ := face_box hb
    exact ⟨rfl, ⟨c1, c2⟩, c3⟩
  go_enter_defers Try.func16, Try.ntmps16
  go_wp2_with (go_at_call 32; refine ko.mono ?_; rintro e W1 ⟨rfl, ⟨c1, c2⟩, hB⟩)
  refine leaves_cons (f := 31) (args := #[.pointer (some ⟨w.heap.size, 0, none⟩)]) (by simp) (by simp [go_sem]) ?_
  refine (catch_panic31 ⟨w.heap.size, 0, none⟩ 0 21 [] _ c1 c2).mono ?_
  rintro e u' w'' ⟨rfl, rfl, rfl⟩
  have c3 : (W1.setCell ⟨w.heap.size, 0, none⟩ (.int .i64 21)).cell? ⟨w.heap.size, 0, none⟩ = some (.int .i64 21) := World.cell?_setCell_same _ _ _ c1
  have H' : Below w.heap.size w (W1.setCell ⟨w.heap.size, 0, none⟩ (.int .i64 21)) := hB.setCell (Nat.le_refl _) _
  generalize (W1.setCell ⟨w.heap.size, 0, none⟩ (.int .i64 21)) = W2 at c3 H' ⊢
  simp [Leaves, settle, results, Try.results16, go_sem, c3]
  exact H'

theorem One_call (a0 : Option Addr) (n0 c0 : Nat) (up : List Int) (a1 : Option Addr) (n1 c1 : Nat) (down : List Int) (h : Int) (a3 : Option Addr) (n3 c3 : Nat) (xs : List Int) (w : World) (h0 : Reads .i8 w a0 n0 up) (l0 : n0 ≤ c0) (h1 : Reads .i8 w a1 n1 down) (l1 : n1 ≤ c1) (h3 : Reads .i64 w a3 n3 xs) (wh : (Lit.int .i64 h).wf = true) (b0 : n0 * 8 ≤ 140737488355328) (b1 : n1 * 8 ≤ 140737488355328) :
    Calls Try.prog 16 #[.slice a0 n0 c0, .slice a1 n1 c1, .int .i64 h, .slice a3 n3 c3] w fun e w' => (∃ a m c, e = .returned (.tuple #[.slice a m c, .int .i64 (if oneB up down h xs then 0 else 21)]) ∧ Reads .i64 w' a m (if oneB up down h xs then oneL up down xs else [])) ∧ Below w.heap.size w w' := by
  cases hf : oneB up down h xs with
  | true => exact (One_yes a0 n0 c0 up a1 n1 c1 down h a3 n3 c3 xs w h0 l0 h1 l1 h3 wh b0 b1 hf).mono fun e w' ⟨⟨a, he, hr⟩, hb⟩ => ⟨⟨some a, n3, n3, he, hr⟩, hb⟩
  | false => exact (One_no a0 n0 c0 up a1 n1 c1 down h a3 n3 c3 xs w h0 l0 h1 l1 h3 wh b0 b1 hf).mono fun e w' ⟨he, hb⟩ => ⟨⟨none, 0, 0, he, Reads.nil _ _⟩, hb⟩

end Go.Proofs.Ytlpmndlefbghoaa
