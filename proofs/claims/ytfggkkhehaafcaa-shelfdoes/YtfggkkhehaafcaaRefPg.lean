/- A pool of the document's as it lies in memory. -/
import Derived.Test.YtfggkkhehaafcaaRows
import Derived.Test.YtfggkkhehaafcaaPages
import Derived.WalkKit
import Derived.ProofKit
import Derived.OpenShut
import Derived.Below
import Derived.WalkLawsBesides
import Derived.Deep.QuietTactic
import Derived.BigQuiet
namespace Go.Proofs.Ytfggkkhehaafcaa
open Go.ChangeShapes Go.WideShapes Go.ChangeAt Go.RowKit
set_option linter.unusedVariables false

/-- a pool of the document's: its struct in block b, its pages in block g, the cells of page i in block r i -/
structure RefAt (B : Nat) (w : World) (b g : Nat) (s : Pl) (r : Nat → Nat) : Prop where
  Bb : B ≤ b
  Bg : B ≤ g
  top : Row 68 w b 2
  t0 : w.cell? ⟨b, 0, none⟩ = some (.slice (some ⟨g, 0, none⟩) s.n s.n)
  t1 : w.cell? ⟨b, 1, none⟩ = some (.int .i64 s.aside)
  row : Row 101 w g (s.n * 3)
  c0 : ∀ i, i < s.n → w.cell? ⟨g, i * 3, none⟩ = some (.string (s.pg i).tag)
  c1 : ∀ i, i < s.n → w.cell? ⟨g, i * 3 + 1, none⟩ = some (.int .i64 (s.pg i).ow)
  c2 : ∀ i, i < s.n → (s.pg i).ow ≠ 0 → w.cell? ⟨g, i * 3 + 2, none⟩ = some (.slice (some ⟨r i, 0, none⟩) 32 32)
  cr : ∀ i, i < s.n → (s.pg i).ow ≠ 0 → Row 2 w (r i) 32 ∧ B ≤ r i
  cs : ∀ i, i < s.n → (s.pg i).ow ≠ 0 → ∀ j, j < 32 → w.cell? ⟨r i, j, none⟩ = some (.int .i64 ((s.pg i).cell j))
  inj : ∀ i, i < s.n → ∀ j, j < s.n → (s.pg i).ow ≠ 0 → (s.pg j).ow ≠ 0 → r i = r j → i = j

theorem RefAt.of_blocks {B : Nat} {w w' : World} {b g : Nat} {s : Pl} {r : Nat → Nat} (h : RefAt B w b g s r) (eb : w'.heap[b]? = w.heap[b]?) (eg : w'.heap[g]? = w.heap[g]?) (er : ∀ i, i < s.n → (s.pg i).ow ≠ 0 → w'.heap[r i]? = w.heap[r i]?) : RefAt B w' b g s r :=
  ⟨h.Bb, h.Bg, h.top.of_block eb, (cell_of_block eb 0).trans h.t0, (cell_of_block eb 1).trans h.t1, h.row.of_block eg, fun i hi => (cell_of_block eg _).trans (h.c0 i hi), fun i hi => (cell_of_block eg _).trans (h.c1 i hi),
    fun i hi ho => (cell_of_block eg _).trans (h.c2 i hi ho), fun i hi ho => ⟨(h.cr i hi ho).1.of_block (er i hi ho), (h.cr i hi ho).2⟩, fun i hi ho j hj => (cell_of_block (er i hi ho) _).trans (h.cs i hi ho j hj), h.inj⟩
theorem RefAt.off {B B' : Nat} {w w' : World} {b g : Nat} {s : Pl} {r : Nat → Nat} {T : TypeId → Bool} (h : RefAt B w b g s r) (o : Off B' T w w') (h1 : T 68 = false) (h2 : T 101 = false) (h3 : T 2 = false) : RefAt B w' b g s r :=
  h.of_blocks (o.row h.top h1) (o.row h.row h2) (fun i hi ho => o.row (h.cr i hi ho).1 h3)
theorem RefAt.under {B m : Nat} {w w' : World} {b g : Nat} {s : Pl} {r : Nat → Nat} (h : RefAt B w b g s r) (hb : b < m) (hg : g < m) (hr : ∀ i, i < s.n → (s.pg i).ow ≠ 0 → r i < m) (o : Below m w w') : RefAt B w' b g s r :=
  h.of_blocks (o.block b hb) (o.block g hg) (fun i hi ho => o.block _ (hr i hi ho))
theorem RefAt.below {B : Nat} {w w' : World} {b g : Nat} {s : Pl} {r : Nat → Nat} (h : RefAt B w b g s r) (o : Below w.heap.size w w') : RefAt B w' b g s r :=
  h.under h.top.lt h.row.lt (fun i hi ho => (h.cr i hi ho).1.lt) o
theorem RefAt.drewN {B : Nat} {w : World} {b g : Nat} {s : Pl} {r : Nat → Nat} (h : RefAt B w b g s r) (m : Nat) : RefAt B (w.drewN m) b g s r := h.of_blocks rfl rfl (fun _ _ _ => rfl)
theorem RefAt.ne {B : Nat} {w : World} {b g : Nat} {s : Pl} {r : Nat → Nat} (h : RefAt B w b g s r) : b ≠ g := h.top.ne h.row (by decide)

theorem RefAt.setAside {B : Nat} {w : World} {b g : Nat} {s : Pl} {r : Nat → Nat} (h : RefAt B w b g s r) (A : Int) : RefAt B (w.setCell ⟨b, 1, none⟩ (.int .i64 A)) b g { s with aside := A } r ∧ Off B TR w (w.setCell ⟨b, 1, none⟩ (.int .i64 A)) := by
  have eg := Below.heap_setCell w ⟨b, 1, none⟩ (.int .i64 A) g h.ne.symm
  have er : ∀ i, i < s.n → (s.pg i).ow ≠ 0 → (w.setCell ⟨b, 1, none⟩ (.int .i64 A)).heap[r i]? = w.heap[r i]? := fun i hi ho => Below.heap_setCell w ⟨b, 1, none⟩ (.int .i64 A) _ ((h.cr i hi ho).1.ne h.top (by decide))
  refine ⟨⟨h.Bb, h.Bg, h.top.set 1 _, (World.cell?_setCell_other _ _ _ _ (by simp)).trans h.t0, World.cell?_setCell_same _ _ _ h.t1, h.row.of_block eg, fun i hi => (cell_of_block eg _).trans (h.c0 i hi), fun i hi => (cell_of_block eg _).trans (h.c1 i hi),
    fun i hi ho => (cell_of_block eg _).trans (h.c2 i hi ho), fun i hi ho => ⟨(h.cr i hi ho).1.of_block (er i hi ho), (h.cr i hi ho).2⟩, fun i hi ho j hj => (cell_of_block (er i hi ho) _).trans (h.cs i hi ho j hj), h.inj⟩, Off.set h.top h.Bb rfl _ _⟩

/-- one page is another -/
theorem RefAt.change {B : Nat} {w w' : World} {b g : Nat} {s : Pl} {r r' : Nat → Nat} (h : RefAt B w b g s r) (i : Nat) (hi : i < s.n) (q : Pg) (eb : w'.heap[b]? = w.heap[b]?) (hrow : Row 101 w' g (s.n * 3))
    (hs : ∀ o, o < i * 3 ∨ i * 3 + 3 ≤ o → w'.cell? ⟨g, o, none⟩ = w.cell? ⟨g, o, none⟩) (er : ∀ j, j < s.n → j ≠ i → (s.pg j).ow ≠ 0 → r' j = r j ∧ w'.heap[r j]? = w.heap[r j]?)
    (q0 : w'.cell? ⟨g, i * 3, none⟩ = some (.string q.tag)) (q1 : w'.cell? ⟨g, i * 3 + 1, none⟩ = some (.int .i64 q.ow))
    (q2 : q.ow ≠ 0 → w'.cell? ⟨g, i * 3 + 2, none⟩ = some (.slice (some ⟨r' i, 0, none⟩) 32 32) ∧ (Row 2 w' (r' i) 32 ∧ B ≤ r' i) ∧ (∀ j, j < 32 → w'.cell? ⟨r' i, j, none⟩ = some (.int .i64 (q.cell j))) ∧ ∀ j, j < s.n → j ≠ i → (s.pg j).ow ≠ 0 → r j ≠ r' i) :
    RefAt B w' b g { s with pg := upd s.pg i q } r' := by
  refine ⟨h.Bb, h.Bg, h.top.of_block eb, (cell_of_block eb 0).trans h.t0, (cell_of_block eb 1).trans h.t1, hrow, fun j hj => ?_, fun j hj => ?_, fun j hj => ?_, fun j hj => ?_, fun j hj => ?_, fun j hj k hk => ?_⟩
  · show w'.cell? ⟨g, j * 3, none⟩ = some (.string (upd s.pg i q j).tag)
    by_cases e : j = i
    · subst e; rw [upd_same]; exact q0
    · rw [upd_other _ _ _ _ e, hs _ (by omega)]; exact h.c0 j hj
  · show w'.cell? ⟨g, j * 3 + 1, none⟩ = some (.int .i64 (upd s.pg i q j).ow)
    by_cases e : j = i
    · subst e; rw [upd_same]; exact q1
    · rw [upd_other _ _ _ _ e, hs _ (by omega)]; exact h.c1 j hj
  · show (upd s.pg i q j).ow ≠ 0 → w'.cell? ⟨g, j * 3 + 2, none⟩ = some (.slice (some ⟨r' j, 0, none⟩) 32 32)
    by_cases e : j = i
    · subst e; rw [upd_same]; exact fun x => (q2 x).1
    · rw [upd_other _ _ _ _ e, hs _ (by omega)]; exact fun x => by rw [(er j hj e x).1]; exact h.c2 j hj x
  · show (upd s.pg i q j).ow ≠ 0 → Row 2 w' (r' j) 32 ∧ B ≤ r' j
    by_cases e : j = i
    · subst e; rw [upd_same]; exact fun x => (q2 x).2.1
    · rw [upd_other _ _ _ _ e]; exact fun x => by rw [(er j hj e x).1]; exact ⟨(h.cr j hj x).1.of_block (er j hj e x).2, (h.cr j hj x).2⟩
  · show (upd s.pg i q j).ow ≠ 0 → ∀ k, k < 32 → w'.cell? ⟨r' j, k, none⟩ = some (.int .i64 ((upd s.pg i q j).cell k))
    by_cases e : j = i
    · subst e; rw [upd_same]; exact fun x => (q2 x).2.2.1
    · rw [upd_other _ _ _ _ e]; exact fun x k hk => by rw [(er j hj e x).1]; exact (cell_of_block (er j hj e x).2 k).trans (h.cs j hj x k hk)
  · show (upd s.pg i q j).ow ≠ 0 → (upd s.pg i q k).ow ≠ 0 → r' j = r' k → j = k
    intro x y z
    by_cases e : j = i
    · by_cases f : k = i
      · omega
      · subst e
        rw [upd_same] at x
        rw [upd_other _ _ _ _ f] at y
        exact absurd (by rw [← (er k hk f y).1]; exact z.symm) ((q2 x).2.2.2 k hk f y)
    · rw [upd_other _ _ _ _ e] at x
      by_cases f : k = i
      · subst f
        rw [upd_same] at y
        exact absurd (by rw [← (er j hj e x).1]; exact z) ((q2 y).2.2.2 j hj e x)
      · rw [upd_other _ _ _ _ f] at y
        exact h.inj j hj k hk x y (by rw [← (er j hj e x).1, ← (er k hk f y).1]; exact z)

/-- a used page's owners are others -/
theorem RefAt.setOw {B : Nat} {w : World} {b g : Nat} {s : Pl} {r : Nat → Nat} (h : RefAt B w b g s r) (i : Nat) (hi : i < s.n) (hu : (s.pg i).ow ≠ 0) (z : Int) :
    RefAt B (w.setCell ⟨g, i * 3 + 1, none⟩ (.int .i64 z)) b g { s with pg := upd s.pg i { s.pg i with ow := z } } r ∧ Off B TR w (w.setCell ⟨g, i * 3 + 1, none⟩ (.int .i64 z)) := by
  have er : ∀ j, j < s.n → (s.pg j).ow ≠ 0 → (w.setCell ⟨g, i * 3 + 1, none⟩ (.int .i64 z)).heap[r j]? = w.heap[r j]? := fun j hj ho => Below.heap_setCell w ⟨g, i * 3 + 1, none⟩ (.int .i64 z) _ ((h.cr j hj ho).1.ne h.row (by decide))
  refine ⟨h.change i hi _ (Below.heap_setCell w _ _ b h.ne) (h.row.set _ _) (fun o ho => World.cell?_setCell_other _ _ _ _ (by simp <;> omega)) (fun j hj _ ho => ⟨rfl, er j hj ho⟩) ((World.cell?_setCell_other _ _ _ _ (by simp)).trans (h.c0 i hi))
    (World.cell?_setCell_same _ _ _ (h.c1 i hi)) (fun x => ⟨(World.cell?_setCell_other _ _ _ _ (by simp)).trans (h.c2 i hi hu), ⟨(h.cr i hi hu).1.of_block (er i hi hu), (h.cr i hi hu).2⟩, fun j hj => (cell_of_block (er i hi hu) j).trans (h.cs i hi hu j hj), fun j hj e ho f => e (h.inj j hj i hi ho hu f)⟩), Off.set h.row h.Bg rfl _ _⟩

/-- a number is laid in a used page's cell -/
theorem RefAt.setVal {B : Nat} {w : World} {b g : Nat} {s : Pl} {r : Nat → Nat} (h : RefAt B w b g s r) (i : Nat) (hi : i < s.n) (hu : (s.pg i).ow ≠ 0) (c : Nat) (hc : c < 32) (z : Int) :
    RefAt B (w.setCell ⟨r i, c, none⟩ (.int .i64 z)) b g { s with pg := upd s.pg i { s.pg i with cell := upd (s.pg i).cell c z } } r ∧ Off B TR w (w.setCell ⟨r i, c, none⟩ (.int .i64 z)) := by
  obtain ⟨hr, hB⟩ := h.cr i hi hu
  have eb := Below.heap_setCell w ⟨r i, c, none⟩ (.int .i64 z) b (h.top.ne hr (by decide))
  have eg := Below.heap_setCell w ⟨r i, c, none⟩ (.int .i64 z) g (h.row.ne hr (by decide))
  refine ⟨h.change i hi _ eb (h.row.of_block eg) (fun o ho => cell_of_block eg o) (fun j hj e ho => ⟨rfl, Below.heap_setCell w _ _ _ fun f => e (h.inj j hj i hi ho hu f)⟩) ((cell_of_block eg _).trans (h.c0 i hi))
    ((cell_of_block eg _).trans (h.c1 i hi)) (fun x => ⟨(cell_of_block eg _).trans (h.c2 i hi hu), ⟨hr.set _ _, hB⟩, fun j hj => ?_, fun j hj e ho f => e (h.inj j hj i hi ho hu f)⟩), Off.set hr hB rfl _ _⟩
  by_cases e : j = c
  · subst e
    show _ = some (Value.int .i64 (upd (s.pg i).cell j z j))
    rw [upd_same]
    exact World.cell?_setCell_same _ _ _ (h.cs i hi hu j hj)
  · show _ = some (Value.int .i64 (upd (s.pg i).cell c z j))
    rw [upd_other _ _ _ _ e]
    exact (World.cell?_setCell_other _ _ _ _ (by simp <;> omega)).trans (h.cs i hi hu j hj)

/-- three cells are stored over a page -/
theorem RefAt.three {B : Nat} {w : World} {b g : Nat} {s : Pl} {r : Nat → Nat} (h : RefAt B w b g s r) (i : Nat) (hi : i < s.n) (x y z : Value) :
    w.there g (i * 3) 3 ∧ (w.setCells g (i * 3) [x, y, z]).cell? ⟨g, i * 3, none⟩ = some x ∧ (w.setCells g (i * 3) [x, y, z]).cell? ⟨g, i * 3 + 1, none⟩ = some y ∧ (w.setCells g (i * 3) [x, y, z]).cell? ⟨g, i * 3 + 2, none⟩ = some z ∧
      (∀ o, o < i * 3 ∨ i * 3 + 3 ≤ o → (w.setCells g (i * 3) [x, y, z]).cell? ⟨g, o, none⟩ = w.cell? ⟨g, o, none⟩) ∧ Row 101 (w.setCells g (i * 3) [x, y, z]) g (s.n * 3) ∧ Off B TR w (w.setCells g (i * 3) [x, y, z]) := by
  have ht := h.row.there (i * 3) 3 (by omega)
  have hin := World.cell?_setCells_in g [x, y, z] (i * 3) w (fun k hk => (ht k hk).1)
  exact ⟨ht, hin 0 (by simp), hin 1 (by simp), hin 2 (by simp), fun o ho => World.cell?_setCells_out g _ _ w ⟨g, o, none⟩ (fun _ _ => ho), h.row.sets _ _, Off.sets h.row h.Bg rfl _ _⟩

/-- a page is free -/
theorem RefAt.setFree {B : Nat} {w : World} {b g : Nat} {s : Pl} {r : Nat → Nat} (h : RefAt B w b g s r) (i : Nat) (hi : i < s.n) (f : Nat → Int) :
    RefAt B (w.setCells g (i * 3) [.string ⟨#[]⟩, .int .i64 0, .slice none 0 0]) b g { s with pg := upd s.pg i ⟨⟨#[]⟩, 0, f⟩ } r ∧ Off B TR w (w.setCells g (i * 3) [.string ⟨#[]⟩, .int .i64 0, .slice none 0 0]) := by
  obtain ⟨ht, k0, k1, k2, ks, kr, ko⟩ := h.three i hi (.string ⟨#[]⟩) (.int .i64 0) (.slice none 0 0)
  exact ⟨h.change i hi _ (setCells_block g _ w _ b h.ne) kr ks (fun j hj _ ho => ⟨rfl, setCells_block g _ w _ _ ((h.cr j hj ho).1.ne h.row (by decide))⟩) k0 k1 (fun x => absurd rfl x), ko⟩

/-- a page is taken: its cells are in a new block -/
theorem RefAt.setNew {B : Nat} {w : World} {b g : Nat} {s : Pl} {r : Nat → Nat} (h : RefAt B w b g s r) (i : Nat) (hi : i < s.n) (t : ByteArray) (R : Nat) (hR : Row 2 w R 32) (hB : B ≤ R) (hz : ∀ j, j < 32 → w.cell? ⟨R, j, none⟩ = some (.int .i64 0))
    (hn : ∀ j, j < s.n → (s.pg j).ow ≠ 0 → r j ≠ R) :
    RefAt B (w.setCells g (i * 3) [.string t, .int .i64 1, .slice (some ⟨R, 0, none⟩) 32 32]) b g { s with pg := upd s.pg i (newPg t) } (upd r i R) ∧ Off B TR w (w.setCells g (i * 3) [.string t, .int .i64 1, .slice (some ⟨R, 0, none⟩) 32 32]) := by
  obtain ⟨ht, k0, k1, k2, ks, kr, ko⟩ := h.three i hi (.string t) (.int .i64 1) (.slice (some ⟨R, 0, none⟩) 32 32)
  have e := setCells_block g [.string t, .int .i64 1, .slice (some ⟨R, 0, none⟩) 32 32] w (i * 3) R (hR.ne h.row (by decide))
  refine ⟨h.change i hi _ (setCells_block g _ w _ b h.ne) kr ks (fun j hj e ho => ⟨upd_other _ _ _ _ e, setCells_block g _ w _ _ ((h.cr j hj ho).1.ne h.row (by decide))⟩) k0 k1 (fun x => ?_), ko⟩
  rw [upd_same]
  exact ⟨k2, ⟨hR.of_block e, hB⟩, fun j hj => (cell_of_block e j).trans (hz j hj), fun j hj _ ho => hn j hj ho⟩

end Go.Proofs.Ytfggkkhehaafcaa
