/- Lists that are filled one behind the other by the closure of Shape. -/
import Derived.Test.YtjbeloljbjfibaaRows
import Derived.Test.YtjbeloljbjfibaaLayer8
import Derived.Test.YtjbeloljbjfibaaConf
import Derived.Test.YtjbeloljbjfibaaBlank
import Derived.Test.YtjbeloljbjfibaaSteps
import Derived.Test.YtjbeloljbjfibaaClo54
import Derived.WalkKit
import Derived.ProofKit
import Derived.OpenShut
import Derived.Below
import Derived.WalkLawsBesides
import Derived.Deep.QuietTactic
import Derived.BigQuiet
import Derived.Deep.RegionWith
import Derived.Deep.RegionHeld3
import Derived.Deep.OwnRows
namespace Go.Proofs.Ytjbeloljbjfibaa
open Go.ChangeShapes Go.WideShapes Go.ChangeAt Go.RowKit
set_option linter.unusedVariables false

/-- where the k-th of lists of these lengths begins, if they stand one behind the other -/
def offs (cnt : Nat → Nat) : Nat → Nat
  | 0 => 0
  | k + 1 => offs cnt k + cnt k

theorem offs_mono (cnt : Nat → Nat) {i j : Nat} (h : i ≤ j) : offs cnt i ≤ offs cnt j := by
  induction j with
  | zero => obtain rfl : i = 0 := by omega
            exact Nat.le_refl _
  | succ j ih =>
    by_cases e : i = j + 1
    · subst e; exact Nat.le_refl _
    · have := ih (by omega)
      show _ ≤ offs cnt j + cnt j
      omega

/-- at a lies a list of k weights zs, in memory from block base on -/
def Fil (base : Nat) (W : World) (a : Addr) (k : Nat) (zs : List Int) : Prop :=
  ∃ B cB, W.cell? a = some (.slice B k cB) ∧ Reads .i8 W B k zs ∧ (B = none → cB = 0) ∧ k ≤ cB ∧ ∀ y, B = some y → base ≤ y.block

theorem cell_set_other {W : World} {p q : Addr} {u v : Value} (h : W.cell? p = some v) (ne : q ≠ p) : (W.setCell q u).cell? p = some v := (World.cell?_setCell_other W q p u ne).trans h

/-- k of the T lists are filled -/
structure Filled (A : Nat → Addr) (cnt : Nat → Nat) (T n vb xb B0 base : Nat) (ws : List Int) (W0 : World) (k : Nat) (W : World) : Prop where
  var : ∃ y c', Blk 26 W vb #[.slice (some y) (n - offs cnt k) c'] ∧ y.block = xb ∧ n - offs cnt k ≤ c' ∧ Reads .i8 W (some y) (n - offs cnt k) (ws.drop (offs cnt k))
  done : ∀ j, j < k → Fil base W (A j) (cnt j) ((ws.drop (offs cnt j)).take (cnt j))
  cells : ∀ j, j < T → (∃ old, W.cell? (A j) = some old) ∧ W.frozen? (A j) = false
  size : base ≤ W.heap.size
  keep : ∀ p v, W0.cell? p = some v → (∀ j, j < T → p ≠ A j) → p.block ≠ vb → W.cell? p = some v
  below : Below B0 W0 W
  block : ∀ q, q < base → q ≠ vb → (∀ j, j < T → q ≠ (A j).block) → W.heap[q]? = W0.heap[q]?

theorem Filled.step {A : Nat → Addr} {cnt : Nat → Nat} {T n vb xb B0 base : Nat} {ws : List Int} {W0 W : World} {k : Nat} (h : Filled A cnt T n vb xb B0 base ws W0 k W) (hk : k < T) (hn : n ≤ 100000) (hfit : offs cnt (k + 1) ≤ n)
    (hA : ∀ i, i < T → ∀ j, j < T → i ≠ j → A i ≠ A j) (hvb : ∀ j, j < T → (A j).block ≠ vb) (hB : ∀ j, j < T → B0 ≤ (A j).block ∧ (A j).block < base) (hv : B0 ≤ vb ∧ vb < base) (hx : xb ≠ vb) (hxA : ∀ j, j < T → xb ≠ (A j).block) (hB0 : B0 ≤ base) :
    Calls Try.prog 54 #[.pointer (some (A k)), .int .i64 (cnt k : Int), .pointer (some ⟨vb, 0, none⟩)] W.drew fun e W' => e = .returned (.tuple #[]) ∧ Filled A cnt T n vb xb B0 base ws W0 (k + 1) W' := by
  obtain ⟨y, c', q, yb, hc, rd⟩ := h.var
  obtain ⟨⟨old, ho⟩, hf⟩ := h.cells k hk
  have hfit' : offs cnt k + cnt k ≤ n := hfit
  refine (closure54 (A k) vb (cnt k) (n - offs cnt k) c' y (ws.drop (offs cnt k)) W.drew q (rd.drewN 1) (by omega) hc (by omega) old ho hf (hvb k hk)).mono ?_
  rintro e W' ⟨he, W1, b, cb, z, hb0, r1, f1, f2, f3, zb, rz, hz, hW⟩
  subst hW
  have hb : Below W.heap.size W W1 := ⟨hb0.os, hb0.tape, hb0.output, hb0.size, hb0.block⟩
  have hsz := h.size
  have s1 := hb.size
  have hne : A k ≠ ⟨vb, 0, none⟩ := fun e => hvb k hk (by rw [e])
  have old1 : ∀ {p v}, W.cell? p = some v → p ≠ A k → p.block ≠ vb → ((W1.setCell (A k) (.slice b (cnt k) cb)).setCell ⟨vb, 0, none⟩ (.slice (some z) (n - offs cnt k - cnt k) (c' - cnt k))).cell? p = some v := fun {p v} hp h1 h2 =>
    cell_set_other (cell_set_other ((hb.cell (World.block_lt_of_cell? _ _ hp)).trans hp) (fun e => h1 e.symm)) (fun e => h2 (by rw [← e]))
  have new1 : ∀ {p v}, W1.cell? p = some v → p.block ≠ (A k).block → p.block ≠ vb → ((W1.setCell (A k) (.slice b (cnt k) cb)).setCell ⟨vb, 0, none⟩ (.slice (some z) (n - offs cnt k - cnt k) (c' - cnt k))).cell? p = some v := fun {p v} hp h1 h2 =>
    cell_set_other (cell_set_other hp (fun e => h1 (by rw [e]))) (fun e => h2 (by rw [← e]))
  have bl : ∀ (p : Addr) i, (p.add i).block = p.block := fun p i => by unfold Addr.add; split <;> rfl
  have rnew : ∀ {B : Option Addr} {m : Nat} {zs : List Int}, Reads .i8 W1 B m zs → (∀ y, B = some y → y.block ≠ (A k).block ∧ y.block ≠ vb) → Reads .i8 ((W1.setCell (A k) (.slice b (cnt k) cb)).setCell ⟨vb, 0, none⟩ (.slice (some z) (n - offs cnt k - cnt k) (c' - cnt k))) B m zs := fun {B m zs} r hB =>
    ⟨r.len, r.max, r.wf, r.some_, fun x hx i hi => new1 (r.cell x hx i hi) (by rw [bl]; exact (hB x hx).1) (by rw [bl]; exact (hB x hx).2)⟩
  have hAk := hB k hk
  refine ⟨he, ⟨z, c' - cnt k, ?_, zb.trans yb, ?_, ?_⟩, fun j hj => ?_, fun j hj => ?_, ?_, fun p v hp h1 h2 => ?_, ?_, fun q hq h1 h2 => ?_⟩
  · rw [show n - offs cnt (k + 1) = n - offs cnt k - cnt k by show n - (offs cnt k + cnt k) = _; omega]
    exact (((q : Blk 26 W vb _).kept hb).other _ (fun e => hvb k hk e.symm)).set 0 _
  · show n - (offs cnt k + cnt k) ≤ _
    omega
  · rw [show n - offs cnt (k + 1) = n - offs cnt k - cnt k by show n - (offs cnt k + cnt k) = _; omega, show ws.drop (offs cnt (k + 1)) = (ws.drop (offs cnt k)).drop (cnt k) by rw [List.drop_drop]; rfl]
    have rz' : Reads .i8 W (some z) (n - offs cnt k - cnt k) ((ws.drop (offs cnt k)).drop (cnt k)) := ⟨rz.len, rz.max, rz.wf, rz.some_, rz.cell⟩
    refine rnew (rz'.below hb) fun y' e => ?_
    obtain rfl := Option.some.inj e
    rw [zb, yb]
    exact ⟨hxA k hk, hx⟩
  · by_cases ej : j = k
    · subst ej
      refine ⟨b, cb, ?_, ?_, f1, f2, fun y' e => Nat.le_trans hsz (f3 y' e)⟩
      · refine cell_set_other (World.cell?_setCell_same (u := old) _ _ _ ?_) (fun e => hne e.symm)
        exact (hb.cell (World.block_lt_of_cell? _ _ ho)).trans ho
      · refine rnew r1 fun y' e => ?_
        have : W.heap.size ≤ y'.block := f3 y' e
        omega
    · obtain ⟨B, cB, g1, g2, g3, g4, g5⟩ := h.done j (by omega)
      refine ⟨B, cB, old1 g1 (hA j (by omega) k hk ej) (hvb j (by omega)), rnew (g2.below hb) fun y' e => ?_, g3, g4, g5⟩
      have := g5 y' e
      omega
  · obtain ⟨⟨oj, hoj⟩, hfj⟩ := h.cells j hj
    refine ⟨?_, ?_⟩
    · obtain ⟨v1, h1⟩ := cell?_setCell_some (p := A k) (x := .slice b (cnt k) cb) ((hb.cell (World.block_lt_of_cell? _ _ hoj)).trans hoj)
      exact cell?_setCell_some h1
    · rw [World.frozen?_setCell, World.frozen?_setCell, hb.frozen (World.block_lt_of_cell? _ _ hoj)]
      exact hfj
  · show base ≤ ((W1.setCell _ _).setCell _ _).heap.size
    simp [World.setCell]
    omega
  · exact old1 (h.keep p v hp h1 h2) (h1 k hk) h2
  · exact ((h.below.trans (hb.mono (by omega))).setCell hAk.1 _).setCell hv.1 _
  · rw [Below.heap_setCell _ _ _ _ h1, Below.heap_setCell _ _ _ _ (h2 k hk), hb.block q (by omega)]
    exact h.block q hq h1 h2

theorem Fil.other {base q : Nat} {W W' : World} {a : Addr} {k : Nat} {zs : List Int} (h : Fil base W a k zs) (o : Only q W W') (ha : a.block ≠ q) (hq : q < base) : Fil base W' a k zs := by
  obtain ⟨B, cB, g1, g2, g3, g4, g5⟩ := h
  refine ⟨B, cB, o.cell g1 (fun e => ha (by simpa using e)), g2.other o (fun x hx _ e => ?_), g3, g4, g5⟩
  have := g5 x hx
  omega

end Go.Proofs.Ytjbeloljbjfibaa
