/- Tenants, their clocks and what waits of each, as the program holds them. -/
import Derived.Test.YtkjmlbllpnehlaaRows
import Derived.Test.YtkjmlbllpnehlaaView
import Derived.Test.YtkjmlbllpnehlaaOwn
import Derived.Test.YtkjmlbllpnehlaaBase
import Derived.Test.YtkjmlbllpnehlaaFkZ
import Derived.Test.YtkjmlbllpnehlaaFkBy
import Derived.WalkKit
import Derived.ProofKit
import Derived.OpenShut
import Derived.Below
import Derived.WalkLawsBesides
import Derived.Deep.QuietTactic
import Derived.BigQuiet
import Derived.Maps.AppendAt
import Derived.OwnWalk
namespace Go.Proofs.Ytkjmlbllpnehlaa
set_option maxRecDepth 20000
open Go.ChangeShapes Go.WideShapes Go.ChangeAt Go.RowKit
set_option linter.unusedVariables false
set_option linter.unusedSimpArgs false

structure Sl where
  a : Option Addr
  c : Nat
/-- the struct in block f, the tenants in block g, their rows at A -/
structure FrAt (B : Nat) (w : World) (f g : Nat) (A : Nat → Sl) (s : Fr) : Prop where
  Bf : B ≤ f
  Bg : B ≤ g
  top : Row 52 w f 2
  t0 : w.cell? ⟨f, 0, none⟩ = some (.slice (some ⟨g, 0, none⟩) s.n s.n)
  t1 : w.cell? ⟨f, 1, none⟩ = some (.int .i64 s.tm)
  row : Row 55 w g (s.n * 3)
  c0 : ∀ i, i < s.n → w.cell? ⟨g, i * 3, none⟩ = some (.int .i64 (s.wt i))
  c1 : ∀ i, i < s.n → w.cell? ⟨g, i * 3 + 1, none⟩ = some (.int .i64 (s.ck i))
  c2 : ∀ i, i < s.n → w.cell? ⟨g, i * 3 + 2, none⟩ = some (.slice (A i).a (rowOf s.L i).length (A i).c)
  own : ∀ i, i < s.n → w.ownsRow B 63 2 (.slice (A i).a (rowOf s.L i).length (A i).c) (rowOf s.L i).length (byF thF (rowOf s.L i))
  apart : ∀ i j k, i < s.n → j < s.n → blkOf (A i).a k → blkOf (A j).a k → i = j
def TF (t : TypeId) : Bool := t == 52 || t == 55 || t == 63
theorem FrAt.keep {B : Nat} {w : World} {f g : Nat} {A : Nat → Sl} {s : Fr} (h : FrAt B w f g A s) {w' : World} (hk : ∀ i t, i < w.heap.size → typeOf w i = some t → TF t = true → w'.heap[i]? = w.heap[i]?) : FrAt B w' f g A s := by
  have kr : ∀ {t i m}, Row t w i m → TF t = true → w'.heap[i]? = w.heap[i]? := fun r hT => hk _ _ r.lt r.type hT
  have ef := kr h.top rfl
  have eg := kr h.row rfl
  refine ⟨h.Bf, h.Bg, h.top.of_block ef, (cell_of_block ef 0).trans h.t0, (cell_of_block ef 1).trans h.t1, h.row.of_block eg, fun i hi => (cell_of_block eg _).trans (h.c0 i hi), fun i hi => (cell_of_block eg _).trans (h.c1 i hi), fun i hi => (cell_of_block eg _).trans (h.c2 i hi), fun i hi => own_keep (h.own i hi) fun k hb => ?_, h.apart⟩
  obtain ⟨_, m, r⟩ := own_blk (h.own i hi) hb
  exact kr r rfl
theorem FrAt.below {B : Nat} {w : World} {f g : Nat} {A : Nat → Sl} {s : Fr} (h : FrAt B w f g A s) {w' : World} (hb : Below w.heap.size w w') : FrAt B w' f g A s := h.keep fun i t hi _ _ => hb.block i hi
theorem FrAt.drewN {B : Nat} {w : World} {f g : Nat} {A : Nat → Sl} {s : Fr} (h : FrAt B w f g A s) (m : Nat) : FrAt B (w.drewN m) f g A s := h.keep fun _ _ _ _ _ => rfl
theorem FrAt.off {B : Nat} {w : World} {f g : Nat} {A : Nat → Sl} {s : Fr} (h : FrAt B w f g A s) {B' : Nat} {T : TypeId → Bool} {w' : World} (o : Off B' T w w') (h1 : T 52 = false) (h2 : T 55 = false) (h3 : T 63 = false) : FrAt B w' f g A s := h.keep fun i t hi ht hT => o.block i hi (.inr fun t' ht' => by
    rw [ht] at ht'
    obtain rfl := Option.some.inj ht'
    simp only [TF, Bool.or_eq_true, beq_iff_eq] at hT
    rcases hT with (rfl | rfl) | rfl <;> assumption)
theorem FrAt.lt {B : Nat} {w : World} {f g : Nat} {A : Nat → Sl} {s : Fr} (h : FrAt B w f g A s) : f < w.heap.size ∧ g < w.heap.size ∧ B ≤ w.heap.size := by
  have := h.top.lt
  have := h.row.lt
  have := h.Bf
  omega
theorem FrAt.ne {B : Nat} {w : World} {f g : Nat} {A : Nat → Sl} {s : Fr} (h : FrAt B w f g A s) : f ≠ g := h.top.ne h.row (by decide)
theorem FrAt.congr {B : Nat} {w : World} {f g : Nat} {A : Nat → Sl} {s : Fr} (h : FrAt B w f g A s) {s' : Fr} (hn : s'.n = s.n) (hw : ∀ i, i < s.n → s'.wt i = s.wt i) (hc : ∀ i, i < s.n → s'.ck i = s.ck i) (hL : ∀ i, i < s.n → rowOf s'.L i = rowOf s.L i) (ht : s'.tm = s.tm) : FrAt B w f g A s' := by
  refine ⟨h.Bf, h.Bg, h.top, by rw [hn]; exact h.t0, by rw [ht]; exact h.t1, by rw [hn]; exact h.row, fun i hi => ?_, fun i hi => ?_, fun i hi => ?_, fun i hi => ?_, fun i j k hi hj => h.apart i j k (by omega) (by omega)⟩
  · rw [hw i (by omega)]; exact h.c0 i (by omega)
  · rw [hc i (by omega)]; exact h.c1 i (by omega)
  · rw [hL i (by omega)]; exact h.c2 i (by omega)
  · rw [hL i (by omega)]; exact h.own i (by omega)
theorem FrAt.rowne {B : Nat} {w : World} {f g : Nat} {A : Nat → Sl} {s : Fr} (h : FrAt B w f g A s) {i : Nat} (hi : i < s.n) {k : Nat} (hk : blkOf (A i).a k) : k ≠ f ∧ k ≠ g := by
  obtain ⟨_, m, r⟩ := own_blk (h.own i hi) hk
  exact ⟨r.ne h.top (by decide), r.ne h.row (by decide)⟩
/-- the time is another -/
theorem FrAt.setTm {B : Nat} {w : World} {f g : Nat} {A : Nat → Sl} {s : Fr} (h : FrAt B w f g A s) (z : Int) : FrAt B (w.setCell ⟨f, 1, none⟩ (.int .i64 z)) f g A { s with tm := z } ∧ Off B TF w (w.setCell ⟨f, 1, none⟩ (.int .i64 z)) := by
  have eg := Below.heap_setCell w ⟨f, 1, none⟩ (.int .i64 z) g h.ne.symm
  refine ⟨⟨h.Bf, h.Bg, h.top.set 1 _, (World.cell?_setCell_other _ _ _ _ (by simp)).trans h.t0, World.cell?_setCell_same _ _ _ h.t1, h.row.of_block eg, fun i hi => (cell_of_block eg _).trans (h.c0 i hi), fun i hi => (cell_of_block eg _).trans (h.c1 i hi), fun i hi => (cell_of_block eg _).trans (h.c2 i hi), fun i hi => own_keep (h.own i hi) fun k hb => Below.heap_setCell w ⟨f, 1, none⟩ _ k (h.rowne hi hb).1, h.apart⟩, Off.set h.top h.Bf rfl _ _⟩
/-- a clock is another -/
theorem FrAt.setCk {B : Nat} {w : World} {f g : Nat} {A : Nat → Sl} {s : Fr} (h : FrAt B w f g A s) {i : Nat} (hi : i < s.n) (z : Int) : FrAt B (w.setCell ⟨g, i * 3 + 1, none⟩ (.int .i64 z)) f g A { s with ck := upd s.ck i z } ∧ Off B TF w (w.setCell ⟨g, i * 3 + 1, none⟩ (.int .i64 z)) := by
  have ef := Below.heap_setCell w ⟨g, i * 3 + 1, none⟩ (.int .i64 z) f h.ne
  refine ⟨⟨h.Bf, h.Bg, h.top.of_block ef, (cell_of_block ef _).trans h.t0, (cell_of_block ef _).trans h.t1, h.row.set _ _, fun j hj => (World.cell?_setCell_other _ _ _ _ (by simp <;> omega)).trans (h.c0 j hj), fun j hj => ?_, fun j hj => (World.cell?_setCell_other _ _ _ _ (by simp <;> omega)).trans (h.c2 j hj), fun j hj => own_keep (h.own j hj) fun k hb => Below.heap_setCell w ⟨g, i * 3 + 1, none⟩ _ k (h.rowne hj hb).2, h.apart⟩, Off.set h.row h.Bg rfl _ _⟩
  show _ = some (Value.int .i64 (upd s.ck i z j))
  by_cases e : j = i
  · subst e
    rw [upd_same]
    exact World.cell?_setCell_same _ _ _ (h.c1 j hj)
  · rw [upd_other _ _ _ _ e]
    exact (World.cell?_setCell_other _ _ _ _ (by simp <;> omega)).trans (h.c1 j hj)
/-- a row is another -/
theorem FrAt.setRow {B : Nat} {w : World} {f g : Nat} {A : Nat → Sl} {s : Fr} (h : FrAt B w f g A s) {W : World} {i : Nat} (hi : i < s.n) (hW : OffS B (fun _ => false) (blkOf (A i).a) w W) {L' : List It} {x : Sl} (ho : W.ownsRow B 63 2 (.slice x.a (rowOf L' i).length x.c) (rowOf L' i).length (byF thF (rowOf L' i))) (hx : ∀ k, blkOf x.a k → blkOf (A i).a k ∨ w.heap.size ≤ k) (hL : ∀ j, j < s.n → j ≠ i → rowOf L' j = rowOf s.L j) :
    FrAt B (W.setCell ⟨g, i * 3 + 2, none⟩ (.slice x.a (rowOf L' i).length x.c)) f g (upd A i x) { s with L := L' } ∧ Off B TF w (W.setCell ⟨g, i * 3 + 2, none⟩ (.slice x.a (rowOf L' i).length x.c)) ∧ (∀ p, W.cell? ⟨g, p, none⟩ = w.cell? ⟨g, p, none⟩) ∧ W.frozen? ⟨g, i * 3 + 2, none⟩ = false := by
  have kf := hW.row h.top rfl (fun hb => (h.rowne hi hb).1 rfl)
  have kg := hW.row h.row rfl (fun hb => (h.rowne hi hb).2 rfl)
  have topW := h.top.of_block kf
  have rowW := h.row.of_block kg
  have hnew : ∀ k, blkOf x.a k → k ≠ g := fun k hk => by
    obtain ⟨_, m, r⟩ := own_blk ho hk
    exact r.ne rowW (by decide)
  have ef := Below.heap_setCell W ⟨g, i * 3 + 2, none⟩ (.slice x.a (rowOf L' i).length x.c) f h.ne
  have ow : ∀ j, j < s.n → j ≠ i → W.ownsRow B 63 2 (.slice (A j).a (rowOf s.L j).length (A j).c) (rowOf s.L j).length (byF thF (rowOf s.L j)) := fun j hj hne => own_keep (h.own j hj) fun k hb => by
    obtain ⟨_, m, r⟩ := own_blk (h.own j hj) hb
    exact hW.row r rfl fun hb' => hne (h.apart j i k hj hi hb hb')
  have c0W := fun j hj => (cell_of_block kg _).trans (h.c0 j hj)
  have c1W := fun j hj => (cell_of_block kg _).trans (h.c1 j hj)
  have c2W := fun j hj => (cell_of_block kg _).trans (h.c2 j hj)
  refine ⟨⟨h.Bf, h.Bg, topW.of_block ef, (cell_of_block ef _).trans ((cell_of_block kf _).trans h.t0), (cell_of_block ef _).trans ((cell_of_block kf _).trans h.t1), rowW.set _ _, fun j hj => (World.cell?_setCell_other _ _ _ _ (by simp <;> omega)).trans (c0W j hj), fun j hj => (World.cell?_setCell_other _ _ _ _ (by simp <;> omega)).trans (c1W j hj), fun j hj => ?_, fun j hj => ?_, fun j l k hj hl hbj hbl => ?_⟩, ⟨hW.os, hW.tape, hW.output, by simpa using hW.size, fun k hk hc => ?_⟩, fun p => cell_of_block kg p, rowW.open_ _⟩
  · show _ = some (Value.slice (upd A i x j).a (rowOf L' j).length (upd A i x j).c)
    by_cases e : j = i
    · subst e
      rw [upd_same]
      exact World.cell?_setCell_same _ _ _ (c2W j hj)
    · rw [upd_other _ _ _ _ e, hL j hj e]
      exact (World.cell?_setCell_other _ _ _ _ (by simp <;> omega)).trans (c2W j hj)
  · show World.ownsRow _ B 63 2 (.slice (upd A i x j).a (rowOf L' j).length (upd A i x j).c) (rowOf L' j).length (byF thF (rowOf L' j))
    by_cases e : j = i
    · subst e
      rw [upd_same]
      exact own_keep ho fun k hk => Below.heap_setCell W ⟨g, j * 3 + 2, none⟩ _ k (hnew k hk)
    · rw [upd_other _ _ _ _ e, hL j hj e]
      exact own_keep (ow j hj e) fun k hk => Below.heap_setCell W ⟨g, i * 3 + 2, none⟩ _ k (by
        obtain ⟨_, m, r⟩ := own_blk (ow j hj e) hk
        exact r.ne rowW (by decide))
  · have lo : ∀ j, j < s.n → ∀ k, blkOf (A j).a k → k < w.heap.size := fun j hj k hk => by
      obtain ⟨_, m, r⟩ := own_blk (h.own j hj) hk
      exact r.lt
    by_cases e : j = i
    · by_cases e2 : l = i
      · rw [e, e2]
      · rw [e, upd_same] at hbj
        rw [upd_other _ _ _ _ e2] at hbl
        rcases hx k hbj with q | q
        · rw [e]
          exact h.apart i l k hi hl q hbl
        · have := lo l hl k hbl
          omega
    · rw [upd_other _ _ _ _ e] at hbj
      by_cases e2 : l = i
      · rw [e2, upd_same] at hbl
        rcases hx k hbl with q | q
        · rw [e2]
          exact h.apart j i k hj hi hbj q
        · have := lo j hj k hbj
          omega
      · rw [upd_other _ _ _ _ e2] at hbl
        exact h.apart j l k hj hl hbj hbl
  · have e1 : k ≠ g := fun e => by
      subst e
      rcases hc with hc | hc
      · have := h.Bg
        omega
      · have := hc 55 h.row.type
        cases this
    rw [Below.heap_setCell W ⟨g, i * 3 + 2, none⟩ _ k e1]
    refine hW.block k hk ?_
    rcases hc with hc | hc
    · exact .inl hc
    · refine .inr ⟨fun hb => ?_, fun _ _ => rfl⟩
      obtain ⟨_, m, r⟩ := own_blk (h.own i hi) hb
      have := hc 63 r.type
      cases this
/-- what lies in a row -/
theorem FrAt.cells {B : Nat} {w : World} {f g : Nat} {A : Nat → Sl} {s : Fr} (h : FrAt B w f g A s) {i : Nat} (hi : i < s.n) {j : Nat} (hj : j < (rowOf s.L i).length) : ∃ y, (A i).a = some ⟨y, 0, none⟩ ∧ w.cell? ⟨y, j * 2, none⟩ = some (.int .i64 ((rowOf s.L i)[j]).id) ∧ w.cell? ⟨y, j * 2 + 1, none⟩ = some (.int .i64 ((rowOf s.L i)[j]).co) ∧ (rowOf s.L i).length ≤ (A i).c ∧ (A i).c ≤ 9223372036854775807 := by
  rcases (h.own i hi).2 with ⟨h1, h2⟩ | ⟨y, cap, cur, h1, h2, h3, h4, h5, _⟩
  · omega
  · have ho := h.own i hi
    simp only [Value.slice.injEq] at h1
    obtain ⟨e1, -, e3⟩ := h1
    rw [e1, e3] at ho
    have e0 : (rowOf s.L i)[j]? = some (rowOf s.L i)[j] := List.getElem?_eq_getElem hj
    have l2 : j * 2 + 1 < (rowOf s.L i).length * 2 := by omega
    refine ⟨y, e1, ?_, ?_, by omega, by unfold maxLen at h5; omega⟩
    · rw [ho.cellAt (j * 2) (by omega)]
      have := by_at knd_th e0 (j := 0) (by omega)
      simpa [thF] using this
    · rw [ho.cellAt (j * 2 + 1) l2]
      have := by_at knd_th e0 (j := 1) (by omega)
      simpa [thF] using this

end Go.Proofs.Ytkjmlbllpnehlaa
