/- Pages with owners as plain values: what is free, counted and taken; pools as they lie in memory, the program's and the document's. -/
import Derived.Test.YtfggkkhehaafcaaRows
import Derived.Test.YtfggkkhehaafcaaView
import Derived.Test.YtfggkkhehaafcaaOwn
import Derived.WalkKit
import Derived.ProofKit
import Derived.OpenShut
import Derived.Below
import Derived.Deep.MidRow
namespace Go.Proofs.Ytfggkkhehaafcaa
open Go.ChangeShapes Go.WideShapes Go.ChangeAt Go.RowKit
set_option linter.unusedVariables false

theorem wf_i64 {x : Int} (h0 : -9223372036854775808 ≤ x) (h1 : x ≤ 9223372036854775807) : (Lit.int .i64 x).wf = true := by
  simpa [Lit.wf, IntKind.min, IntKind.max, IntKind.signed, IntKind.bits] using And.intro h0 h1

theorem hidden_ {p : Prop} (h : p) : Hid p := h

/-- a page: its tag, its owners, its cells -/
structure Pg where
  tag : ByteArray
  ow : Int
  cell : Nat → Int

/-- a pool: how many pages, the pages, how many are laid aside -/
structure Pl where
  n : Nat
  pg : Nat → Pg
  aside : Int

def upd {α : Type} (f : Nat → α) (i : Nat) (v : α) : Nat → α := fun j => if j = i then v else f j
theorem upd_same {α : Type} (f : Nat → α) (i : Nat) (v : α) : upd f i v i = v := by simp [upd]
theorem upd_other {α : Type} (f : Nat → α) (i : Nat) (v : α) (j : Nat) (h : j ≠ i) : upd f i v j = f j := by simp [upd, h]

/-- how many of the first pages are free -/
def freeTo (p : Nat → Pg) : Nat → Nat
  | 0 => 0
  | i + 1 => freeTo p i + (if (p i).ow = 0 then 1 else 0)

/-- how many of the first pages have a tag -/
def cntTo (p : Nat → Pg) (t : ByteArray) : Nat → Nat
  | 0 => 0
  | i + 1 => cntTo p t i + (if 0 < (p i).ow ∧ (p i).tag.toList = t.toList then 1 else 0)

theorem freeTo_le (p : Nat → Pg) (i : Nat) : freeTo p i ≤ i := by
  induction i with
  | zero => simp [freeTo]
  | succ i ih => simp only [freeTo]; split <;> omega
theorem cntTo_le (p : Nat → Pg) (t : ByteArray) (i : Nat) : cntTo p t i ≤ i := by
  induction i with
  | zero => simp [cntTo]
  | succ i ih => simp only [cntTo]; split <;> omega

/-- the first k free pages among the first ones -/
def tk (p : Nat → Pg) (k : Nat) : Nat → List Int
  | 0 => []
  | i + 1 => if (p i).ow = 0 ∧ (tk p k i).length < k then tk p k i ++ [(i : Int)] else tk p k i

def newPg (t : ByteArray) : Pg := ⟨t, 1, fun _ => 0⟩

/-- the pages when these have been taken -/
def takeP (p : Nat → Pg) (t : ByteArray) (k i : Nat) : Nat → Pg := fun j => if j < i ∧ (p j).ow = 0 ∧ (tk p k j).length < k then newPg t else p j

theorem tk_len (p : Nat → Pg) (k i : Nat) : (tk p k i).length = min k (freeTo p i) := by
  induction i with
  | zero => simp [tk, freeTo]
  | succ i ih =>
    simp only [tk, freeTo]
    by_cases h : (p i).ow = 0
    · rw [if_pos h]
      by_cases hl : (tk p k i).length < k
      · rw [if_pos ⟨h, hl⟩, List.length_append, ih]
        simp only [List.length_cons, List.length_nil]
        omega
      · rw [if_neg (fun x => hl x.2), ih]
        omega
    · rw [if_neg (fun x => h x.1), if_neg h, ih]
      omega

theorem tk_le (p : Nat → Pg) (k i : Nat) : (tk p k i).length ≤ k := by rw [tk_len]; omega
theorem tk_lt (p : Nat → Pg) (k i : Nat) : ∀ z ∈ tk p k i, 0 ≤ z ∧ z < (i : Int) := by
  induction i with
  | zero => simp [tk]
  | succ i ih =>
    intro z hz
    simp only [tk] at hz
    split at hz
    · rcases List.mem_append.1 hz with hz | hz
      · have := ih z hz; omega
      · simp at hz; omega
    · have := ih z hz; omega

theorem tk_wf (p : Nat → Pg) (k i : Nat) (hi : i ≤ 256) : ∀ z ∈ tk p k i, (Lit.int .i64 z).wf = true := by
  intro z hz
  have := tk_lt p k i z hz
  exact wf_i64 (by omega) (by omega)

theorem takeP_zero (p : Nat → Pg) (t : ByteArray) (k : Nat) : takeP p t k 0 = p := by
  funext j
  simp [takeP]
theorem takeP_at (p : Nat → Pg) (t : ByteArray) (k i : Nat) : takeP p t k i i = p i := by simp [takeP]
theorem takeP_yes (p : Nat → Pg) (t : ByteArray) (k i : Nat) (h : (p i).ow = 0) (hl : (tk p k i).length < k) : takeP p t k (i + 1) = upd (takeP p t k i) i (newPg t) := by
  funext j
  simp only [takeP, upd]
  by_cases e : j = i
  · subst e
    rw [if_pos ⟨by omega, h, hl⟩, if_pos rfl]
  · rw [if_neg e]
    by_cases c : j < i ∧ (p j).ow = 0 ∧ (tk p k j).length < k
    · rw [if_pos ⟨by omega, c.2⟩, if_pos c]
    · rw [if_neg (fun x => c ⟨by omega, x.2⟩), if_neg c]
theorem takeP_no (p : Nat → Pg) (t : ByteArray) (k i : Nat) (h : ¬ ((p i).ow = 0 ∧ (tk p k i).length < k)) : takeP p t k (i + 1) = takeP p t k i := by
  funext j
  simp only [takeP]
  by_cases e : j = i
  · subst e
    rw [if_neg (fun x => h x.2), if_neg (fun x => by omega)]
  · by_cases c : j < i ∧ (p j).ow = 0 ∧ (tk p k j).length < k
    · rw [if_pos ⟨by omega, c.2⟩, if_pos c]
    · rw [if_neg (fun x => c ⟨by omega, x.2⟩), if_neg c]
theorem tk_yes (p : Nat → Pg) (k i : Nat) (h : (p i).ow = 0) (hl : (tk p k i).length < k) : tk p k (i + 1) = tk p k i ++ [(i : Int)] := by simp only [tk]; rw [if_pos ⟨h, hl⟩]
theorem tk_no (p : Nat → Pg) (k i : Nat) (h : ¬ ((p i).ow = 0 ∧ (tk p k i).length < k)) : tk p k (i + 1) = tk p k i := by simp only [tk]; rw [if_neg h]

/-- when k have been taken, nothing more is -/
theorem tk_stop (p : Nat → Pg) (t : ByteArray) (k i : Nat) (h : (tk p k i).length = k) (d : Nat) : tk p k (i + d) = tk p k i ∧ takeP p t k (i + d) = takeP p t k i := by
  induction d with
  | zero => exact ⟨rfl, rfl⟩
  | succ d ih =>
    have hn : ¬ ((p (i + d)).ow = 0 ∧ (tk p k (i + d)).length < k) := fun x => by rw [ih.1, h] at x; omega
    rw [← Nat.add_assoc, tk_no p k (i + d) hn, takeP_no p t k (i + d) hn]
    exact ih

/-- a block of so many cells of a type -/
def Row (t : TypeId) (w : World) (g m : Nat) : Prop := ∃ cs, w.heap[g]? = some (.cells cs t (0, 0)) ∧ cs.size = m

theorem Row.lt {t : TypeId} {w : World} {g m : Nat} (h : Row t w g m) : g < w.heap.size := by
  obtain ⟨cs, e, _⟩ := h
  exact (Array.getElem?_eq_some_iff.1 e).1
theorem Row.some_ {t : TypeId} {w : World} {g m : Nat} (h : Row t w g m) (o : Nat) (ho : o < m) : ∃ v, w.cell? ⟨g, o, none⟩ = some v := by
  obtain ⟨cs, e, hs⟩ := h
  exact ⟨cs[o]'(by omega), by simp [World.cell?, e, show o < cs.size by omega]⟩
theorem Row.open_ {t : TypeId} {w : World} {g m : Nat} (h : Row t w g m) (o : Nat) : w.frozen? ⟨g, o, none⟩ = false := by
  obtain ⟨cs, e, hs⟩ := h
  simp [World.frozen?, e]
theorem Row.there {t : TypeId} {w : World} {g m : Nat} (h : Row t w g m) (o k : Nat) (hk : o + k ≤ m) : w.there g o k := fun j hj => by
  obtain ⟨v, e⟩ := h.some_ (o + j) (by omega)
  exact ⟨by rw [e]; rfl, h.open_ _⟩
theorem Row.set {t : TypeId} {w : World} {g m : Nat} (h : Row t w g m) (o : Nat) (v : Value) : Row t (w.setCell ⟨g, o, none⟩ v) g m := by
  obtain ⟨cs, e, hs⟩ := h
  refine ⟨cs.setIfInBounds o v, ?_, by simpa using hs⟩
  rw [setCell_eq_setRow w g o cs t (0, 0) v e]
  exact setRow_heap w g cs _ t (0, 0) e
theorem Row.sets {t : TypeId} {g m : Nat} (vs : List Value) : ∀ {w : World} (o : Nat), Row t w g m → Row t (w.setCells g o vs) g m := by
  induction vs with
  | nil => intro w o h; exact h
  | cons v r ih => intro w o h; exact ih (o + 1) (h.set o v)
theorem Row.of_block {t : TypeId} {w w' : World} {g m : Nat} (h : Row t w g m) (e : w'.heap[g]? = w.heap[g]?) : Row t w' g m := by
  obtain ⟨cs, e', hs⟩ := h
  exact ⟨cs, e.trans e', hs⟩
theorem Row.ne {t t' : TypeId} {w : World} {g g' m m' : Nat} (h : Row t w g m) (h' : Row t' w g' m') (ht : t ≠ t') : g ≠ g' := by
  rintro rfl
  obtain ⟨cs, e, hs⟩ := h
  obtain ⟨cs', e', hs'⟩ := h'
  rw [e] at e'
  exact ht (by injection e' with e'; injection e')

theorem setCells_block (g : Nat) (vs : List Value) : ∀ (w : World) (o k : Nat), k ≠ g → (w.setCells g o vs).heap[k]? = w.heap[k]? := by
  induction vs with
  | nil => intro w o k hk; rfl
  | cons v r ih => intro w o k hk; exact (ih _ (o + 1) k hk).trans (Below.heap_setCell w ⟨g, o, none⟩ v k hk)
theorem setCells_rest (g : Nat) (vs : List Value) : ∀ (w : World) (o : Nat), (w.setCells g o vs).os = w.os ∧ (w.setCells g o vs).tape = w.tape ∧ (w.setCells g o vs).output = w.output ∧ (w.setCells g o vs).heap.size = w.heap.size := by
  induction vs with
  | nil => intro w o; exact ⟨rfl, rfl, rfl, rfl⟩
  | cons v r ih =>
    intro w o
    obtain ⟨a, b, c, d⟩ := ih (w.setCell ⟨g, o, none⟩ v) (o + 1)
    exact ⟨a, b, c, d.trans (by simp [World.setCell])⟩

/-- the type of a block's cells -/
def typeOf (w : World) (k : Nat) : Option TypeId := match w.heap[k]? with | some (.cells _ t _) => some t | _ => none
theorem Row.type {t : TypeId} {w : World} {g m : Nat} (h : Row t w g m) : typeOf w g = some t := by
  obtain ⟨cs, e, hs⟩ := h
  simp [typeOf, e]

/-- only blocks from B on of some types have been written, or are new -/
structure Off (B : Nat) (T : TypeId → Bool) (w w' : World) : Prop where
  os : w'.os = w.os
  tape : w'.tape = w.tape
  output : w'.output = w.output
  size : w.heap.size ≤ w'.heap.size
  block : ∀ k, k < w.heap.size → (k < B ∨ ∀ t, typeOf w k = some t → T t = false) → w'.heap[k]? = w.heap[k]?

theorem Off.refl (B : Nat) (T : TypeId → Bool) (w : World) : Off B T w w := ⟨rfl, rfl, rfl, Nat.le_refl _, fun _ _ _ => rfl⟩
theorem Off.trans {B : Nat} {T : TypeId → Bool} {w w' w'' : World} (h : Off B T w w') (k : Off B T w' w'') : Off B T w w'' := by
  refine ⟨k.os.trans h.os, k.tape.trans h.tape, k.output.trans h.output, Nat.le_trans h.size k.size, fun i hi hc => ?_⟩
  have e := h.block i hi hc
  refine (k.block i (Nat.lt_of_lt_of_le hi h.size) ?_).trans e
  rcases hc with hc | hc
  · exact .inl hc
  · exact .inr fun t ht => hc t (by simpa [typeOf, e] using ht)
theorem Off.of_below {B : Nat} {T : TypeId → Bool} {w w' : World} (h : Below w.heap.size w w') : Off B T w w' := ⟨h.os, h.tape, h.output, h.size, fun k hk _ => h.block k hk⟩
theorem Off.below {B : Nat} {T : TypeId → Bool} {w w' : World} (h : Off B T w w') (hB : B ≤ w.heap.size) : Below B w w' :=
  ⟨h.os, h.tape, h.output, h.size, fun k hk => h.block k (by omega) (.inl hk)⟩
theorem Off.drewN {B : Nat} {T : TypeId → Bool} {w w' : World} (h : Off B T w w') (m : Nat) : Off B T w (w'.drewN m) := ⟨h.os, h.tape, h.output, h.size, h.block⟩
theorem Off.alloc {B : Nat} {T : TypeId → Bool} {w w' : World} (h : Off B T w w') (o : Obj) : Off B T w (w'.alloc o) := h.trans (Off.of_below (below_new (Below.refl _ w') o))
theorem Off.set {B : Nat} {T : TypeId → Bool} {t : TypeId} {w : World} {g m : Nat} (h : Row t w g m) (hB : B ≤ g) (hT : T t = true) (o : Nat) (v : Value) : Off B T w (w.setCell ⟨g, o, none⟩ v) := by
  refine ⟨rfl, rfl, rfl, by simp [World.setCell], fun k hk hc => Below.heap_setCell w _ v k fun e => ?_⟩
  have e' : k = g := e
  subst e'
  rcases hc with hc | hc
  · omega
  · rw [hc t h.type] at hT
    exact absurd hT (by decide)
theorem Off.sets {B : Nat} {T : TypeId → Bool} {t : TypeId} {w : World} {g m : Nat} (h : Row t w g m) (hB : B ≤ g) (hT : T t = true) (o : Nat) (vs : List Value) : Off B T w (w.setCells g o vs) := by
  obtain ⟨a, b, c, d⟩ := setCells_rest g vs w o
  refine ⟨a, b, c, by omega, fun k hk hc => setCells_block g vs w o k fun e => ?_⟩
  subst e
  rcases hc with hc | hc
  · omega
  · rw [hc t h.type] at hT
    exact absurd hT (by decide)
theorem Off.row {B : Nat} {T : TypeId → Bool} {w w' : World} (h : Off B T w w') {t : TypeId} {g m : Nat} (r : Row t w g m) (hT : T t = false) : w'.heap[g]? = w.heap[g]? :=
  h.block g r.lt (.inr fun t' ht => by rw [r.type] at ht; injection ht with ht; subst ht; exact hT)

/-- what the program's pool is made of, and the document's -/
def TP (t : TypeId) : Bool := t == 65 || t == 93
def TR (t : TypeId) : Bool := t == 68 || t == 101 || t == 2

/-- a page of the program's, 34 cells from p on -/
structure PgAt (w : World) (g o : Nat) (q : Pg) : Prop where
  c0 : w.cell? ⟨g, o, none⟩ = some (.string q.tag)
  c1 : w.cell? ⟨g, o + 1, none⟩ = some (.int .i64 q.ow)
  cs : ∀ j, j < 32 → w.cell? ⟨g, o + 2 + j, none⟩ = some (.int .i64 (q.cell j))

theorem PgAt.of_cells {w w' : World} {g o : Nat} {q : Pg} (h : PgAt w g o q) (e : ∀ j, j < 34 → w'.cell? ⟨g, o + j, none⟩ = w.cell? ⟨g, o + j, none⟩) : PgAt w' g o q :=
  ⟨(e 0 (by omega)).trans h.c0, (e 1 (by omega)).trans h.c1, fun j hj => by have := e (2 + j) (by omega); rw [← Nat.add_assoc] at this; exact this.trans (h.cs j hj)⟩

/-- a pool of the program's: its struct in block b, its pages in block g -/
structure PoolAt (B : Nat) (w : World) (b g : Nat) (s : Pl) : Prop where
  Bb : B ≤ b
  Bg : B ≤ g
  top : Row 65 w b 2
  t0 : w.cell? ⟨b, 0, none⟩ = some (.slice (some ⟨g, 0, none⟩) s.n s.n)
  t1 : w.cell? ⟨b, 1, none⟩ = some (.int .i64 s.aside)
  row : Row 93 w g (s.n * 34)
  pg : ∀ i, i < s.n → PgAt w g (i * 34) (s.pg i)

theorem cell_of_block {w w' : World} {g : Nat} (e : w'.heap[g]? = w.heap[g]?) (o : Nat) : w'.cell? ⟨g, o, none⟩ = w.cell? ⟨g, o, none⟩ := World.cell?_of_block (w := w) e

theorem PoolAt.ne {B : Nat} {w : World} {b g : Nat} {s : Pl} (h : PoolAt B w b g s) : b ≠ g := h.top.ne h.row (by decide)
theorem PoolAt.lt {B : Nat} {w : World} {b g : Nat} {s : Pl} (h : PoolAt B w b g s) : B ≤ w.heap.size := by have := h.top.lt; have := h.Bb; omega
theorem PoolAt.of_blocks {B : Nat} {w w' : World} {b g : Nat} {s : Pl} (h : PoolAt B w b g s) (eb : w'.heap[b]? = w.heap[b]?) (eg : w'.heap[g]? = w.heap[g]?) : PoolAt B w' b g s :=
  ⟨h.Bb, h.Bg, h.top.of_block eb, (cell_of_block eb 0).trans h.t0, (cell_of_block eb 1).trans h.t1, h.row.of_block eg, fun i hi => (h.pg i hi).of_cells fun j _ => cell_of_block eg _⟩
theorem PoolAt.off {B B' : Nat} {w w' : World} {b g : Nat} {s : Pl} {T : TypeId → Bool} (h : PoolAt B w b g s) (o : Off B' T w w') (h1 : T 65 = false) (h2 : T 93 = false) : PoolAt B w' b g s :=
  h.of_blocks (o.row h.top h1) (o.row h.row h2)
theorem PoolAt.below {B : Nat} {w w' : World} {b g : Nat} {s : Pl} (h : PoolAt B w b g s) (o : Below w.heap.size w w') : PoolAt B w' b g s :=
  h.of_blocks (o.block b h.top.lt) (o.block g h.row.lt)
theorem PoolAt.drewN {B : Nat} {w : World} {b g : Nat} {s : Pl} (h : PoolAt B w b g s) (m : Nat) : PoolAt B (w.drewN m) b g s := h.of_blocks rfl rfl

/-- another number is laid aside -/
theorem PoolAt.setAside {B : Nat} {w : World} {b g : Nat} {s : Pl} (h : PoolAt B w b g s) (A : Int) : PoolAt B (w.setCell ⟨b, 1, none⟩ (.int .i64 A)) b g { s with aside := A } ∧ Off B TP w (w.setCell ⟨b, 1, none⟩ (.int .i64 A)) := by
  have eg := Below.heap_setCell w ⟨b, 1, none⟩ (.int .i64 A) g h.ne.symm
  refine ⟨⟨h.Bb, h.Bg, h.top.set 1 _, ?_, World.cell?_setCell_same _ _ _ h.t1, h.row.of_block eg, fun i hi => (h.pg i hi).of_cells fun j _ => cell_of_block eg _⟩, Off.set h.top h.Bb rfl _ _⟩
  exact (World.cell?_setCell_other _ _ _ _ (by simp)).trans h.t0

/-- one page is another -/
theorem PoolAt.change {B : Nat} {w w' : World} {b g : Nat} {s : Pl} (h : PoolAt B w b g s) (i : Nat) (hi : i < s.n) (q : Pg) (eb : w'.heap[b]? = w.heap[b]?) (hr : Row 93 w' g (s.n * 34))
    (hs : ∀ o, o < i * 34 ∨ i * 34 + 34 ≤ o → w'.cell? ⟨g, o, none⟩ = w.cell? ⟨g, o, none⟩) (hq : PgAt w' g (i * 34) q) : PoolAt B w' b g { s with pg := upd s.pg i q } := by
  refine ⟨h.Bb, h.Bg, h.top.of_block eb, (cell_of_block eb 0).trans h.t0, (cell_of_block eb 1).trans h.t1, hr, fun j hj => ?_⟩
  by_cases e : j = i
  · subst e
    show PgAt w' g (j * 34) (upd s.pg j q j)
    rw [upd_same]
    exact hq
  · show PgAt w' g (j * 34) (upd s.pg i q j)
    rw [upd_other _ _ _ _ e]
    exact (h.pg j hj).of_cells fun k hk => hs _ (by omega)

/-- a page's owners are others -/
theorem PoolAt.setOw {B : Nat} {w : World} {b g : Nat} {s : Pl} (h : PoolAt B w b g s) (i : Nat) (hi : i < s.n) (z : Int) :
    PoolAt B (w.setCell ⟨g, i * 34 + 1, none⟩ (.int .i64 z)) b g { s with pg := upd s.pg i { s.pg i with ow := z } } ∧ Off B TP w (w.setCell ⟨g, i * 34 + 1, none⟩ (.int .i64 z)) := by
  refine ⟨h.change i hi _ (Below.heap_setCell w _ _ b h.ne) (h.row.set _ _) (fun o ho => World.cell?_setCell_other _ _ _ _ (by simp <;> omega)) ⟨?_, World.cell?_setCell_same _ _ _ (h.pg i hi).c1, fun j hj => ?_⟩, Off.set h.row h.Bg rfl _ _⟩
  · exact (World.cell?_setCell_other _ _ _ _ (by simp)).trans (h.pg i hi).c0
  · exact (World.cell?_setCell_other _ _ _ _ (by simp <;> omega)).trans ((h.pg i hi).cs j hj)
theorem PoolAt.setTag {B : Nat} {w : World} {b g : Nat} {s : Pl} (h : PoolAt B w b g s) (i : Nat) (hi : i < s.n) (t : ByteArray) :
    PoolAt B (w.setCell ⟨g, i * 34, none⟩ (.string t)) b g { s with pg := upd s.pg i { s.pg i with tag := t } } ∧ Off B TP w (w.setCell ⟨g, i * 34, none⟩ (.string t)) := by
  refine ⟨h.change i hi _ (Below.heap_setCell w _ _ b h.ne) (h.row.set _ _) (fun o ho => World.cell?_setCell_other _ _ _ _ (by simp <;> omega)) ⟨World.cell?_setCell_same _ _ _ (h.pg i hi).c0, ?_, fun j hj => ?_⟩, Off.set h.row h.Bg rfl _ _⟩
  · exact (World.cell?_setCell_other _ _ _ _ (by simp)).trans (h.pg i hi).c1
  · exact (World.cell?_setCell_other _ _ _ _ (by simp <;> omega)).trans ((h.pg i hi).cs j hj)
theorem PoolAt.setVal {B : Nat} {w : World} {b g : Nat} {s : Pl} (h : PoolAt B w b g s) (i : Nat) (hi : i < s.n) (c : Nat) (hc : c < 32) (z : Int) :
    PoolAt B (w.setCell ⟨g, i * 34 + 2 + c, none⟩ (.int .i64 z)) b g { s with pg := upd s.pg i { s.pg i with cell := upd (s.pg i).cell c z } } ∧ Off B TP w (w.setCell ⟨g, i * 34 + 2 + c, none⟩ (.int .i64 z)) := by
  refine ⟨h.change i hi _ (Below.heap_setCell w _ _ b h.ne) (h.row.set _ _) (fun o ho => World.cell?_setCell_other _ _ _ _ (by simp <;> omega)) ⟨?_, ?_, fun j hj => ?_⟩, Off.set h.row h.Bg rfl _ _⟩
  · exact (World.cell?_setCell_other _ _ _ _ (by simp <;> omega)).trans (h.pg i hi).c0
  · exact (World.cell?_setCell_other _ _ _ _ (by simp <;> omega)).trans (h.pg i hi).c1
  · by_cases e : j = c
    · subst e
      show _ = some (Value.int .i64 (upd (s.pg i).cell j z j))
      rw [upd_same]
      exact World.cell?_setCell_same _ _ _ ((h.pg i hi).cs j hj)
    · show _ = some (Value.int .i64 (upd (s.pg i).cell c z j))
      rw [upd_other _ _ _ _ e]
      exact (World.cell?_setCell_other _ _ _ _ (by simp <;> omega)).trans ((h.pg i hi).cs j hj)

/-- the cells of a new page -/
def newCs (t : ByteArray) : List Value := .string t :: .int .i64 1 :: List.replicate 32 (.int .i64 0)
theorem newCs_len (t : ByteArray) : (newCs t).length = 34 := by simp [newCs]
theorem PoolAt.setNew {B : Nat} {w : World} {b g : Nat} {s : Pl} (h : PoolAt B w b g s) (i : Nat) (hi : i < s.n) (t : ByteArray) :
    PoolAt B (w.setCells g (i * 34) (newCs t)) b g { s with pg := upd s.pg i (newPg t) } ∧ Off B TP w (w.setCells g (i * 34) (newCs t)) := by
  have ht := h.row.there (i * 34) 34 (by omega)
  have hin : ∀ j (hj : j < 34), (w.setCells g (i * 34) (newCs t)).cell? ⟨g, i * 34 + j, none⟩ = some ((newCs t)[j]'(by rw [newCs_len]; exact hj)) := fun j hj =>
    World.cell?_setCells_in g (newCs t) (i * 34) w (fun k hk => (ht k (by rw [newCs_len] at hk; exact hk)).1) j (by rw [newCs_len]; exact hj)
  refine ⟨h.change i hi _ (setCells_block g _ w _ b h.ne) (h.row.sets _ _) (fun o ho => World.cell?_setCells_out g (newCs t) (i * 34) w ⟨g, o, none⟩ (fun _ _ => by rw [newCs_len]; exact ho)) ⟨?_, ?_, fun j hj => ?_⟩, Off.sets h.row h.Bg rfl _ _⟩
  · exact hin 0 (by omega)
  · exact hin 1 (by omega)
  · have := hin (2 + j) (by omega)
    rw [← Nat.add_assoc] at this
    rw [this]
    have e : (newCs t)[2 + j]? = some (.int .i64 0) := by
      show (.string t :: .int .i64 1 :: List.replicate 32 (Value.int .i64 0))[2 + j]? = _
      rw [Nat.add_comm 2 j, List.getElem?_cons_succ, List.getElem?_cons_succ, List.getElem?_replicate, if_pos hj]
    rw [← List.getElem?_eq_getElem, e]
    rfl

end Go.Proofs.Ytfggkkhehaafcaa
