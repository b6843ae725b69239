/- Acts that are handed in. -/
import Derived.Test.YtfggkkhehaafcaaRows
import Derived.Test.YtfggkkhehaafcaaView
import Derived.Test.YtfggkkhehaafcaaOwn
import Derived.Test.YtfggkkhehaafcaaPages
import Derived.WalkKit
import Derived.ProofKit
import Derived.OpenShut
import Derived.Below
import Derived.WalkLawsBesides
import Derived.Deep.QuietTactic
import Derived.BigQuiet
import Derived.Deep.Slices
import Derived.SizedLaws
namespace Go.Proofs.Ytfggkkhehaafcaa
open Go.ChangeShapes Go.WideShapes Go.ChangeAt Go.RowKit
set_option linter.unusedVariables false
set_option linter.unusedSimpArgs false

/-- a slice as it is handed in -/
structure SL where
  a : Option Addr
  n : Nat
  c : Nat
def SL.v (s : SL) : Value := .slice s.a s.n s.c

/-- an act as it is handed in -/
structure OpV where
  k : Int
  t : ByteArray
  W : SL
  zw : List Int
  n : Int

/-- what an act's parts read as -/
structure OpOk (w : World) (o : OpV) : Prop where
  rw_ : Reads .i8 w o.W.a o.W.n o.zw
  nil : o.W.a = none → o.W.c = 0
  sz : o.t.size ≤ maxLen
  wn : (Lit.int .i64 o.n).wf = true
theorem OpOk.below {w w' : World} {o : OpV} (h : OpOk w o) (hb : Below w.heap.size w w') : OpOk w' o := ⟨h.rw_.below hb, h.nil, h.sz, h.wn⟩

/-- a row of acts that is handed in -/
structure OpsAt (w : World) (a : Option Addr) (n : Nat) (O : Nat → OpV) : Prop where
  max : n ≤ 9223372036854775807
  some_ : 0 < n → ∃ x, a = some x
  cell : ∀ x, a = some x → ∀ i, i < n → w.cell? (x.add (i * 4)) = some (.int .i64 (O i).k) ∧ w.cell? ((x.add (i * 4)).add 1) = some (.string (O i).t) ∧ w.cell? ((x.add (i * 4)).add 2) = some (O i).W.v ∧ w.cell? ((x.add (i * 4)).add 3) = some (.int .i64 (O i).n)
  ok : ∀ i, i < n → OpOk w (O i)

theorem OpsAt.below {w w' : World} {a : Option Addr} {n : Nat} {O : Nat → OpV} (h : OpsAt w a n O) (hb : Below w.heap.size w w') : OpsAt w' a n O := by
  have c : ∀ p v, w.cell? p = some v → w'.cell? p = some v := fun p v hp => (hb.cell (World.block_lt_of_cell? w p hp)).trans hp
  refine ⟨h.max, h.some_, fun x hx i hi => ?_, fun i hi => (h.ok i hi).below hb⟩
  obtain ⟨d0, d1, d2, d3⟩ := h.cell x hx i hi
  exact ⟨c _ _ d0, c _ _ d1, c _ _ d2, c _ _ d3⟩

theorem ce39 : Try.prog.cellsOf 39 = 4 := by kernel_rfl
theorem ce3 : Try.prog.cellsOf 3 = 1 := by kernel_rfl
theorem ce9 : Try.prog.cellsOf 9 = 1 := by kernel_rfl
theorem ce37 : Try.prog.cellsOf 37 = 1 := by kernel_rfl

theorem choose_below {α : Type} (d : α) {n : Nat} {p : Nat → α → Prop} (h : ∀ i, i < n → ∃ a, p i a) : ∃ F : Nat → α, ∀ i, i < n → p i (F i) := by
  refine ⟨fun i => if hi : i < n then (h i hi).choose else d, fun i hi => ?_⟩
  simp only [dif_pos hi]
  exact (h i hi).choose_spec

section
variable {H : Type} {enc : TypeId × Value → H} {W : World} {fuel : Nat}

theorem open_w {c : Value} {x : DataW H × List MemPlace} (h : DataW.trod enc Try.prog W 0 (fun _ => true) true fuel 37 [c] = some x) : ∃ (s : SL) (zs : List Int), c = s.v ∧ Reads .i8 W s.a s.n zs ∧ (s.a = none → s.c = 0) := by
  rcases open_ints Try.underlying37 Try.underlying59 (by kernel_rfl) h with ⟨hcs, hd⟩ | ⟨y, l, cp, zs, hcs, _, hl, hm, hz, hd, hcell, hwz⟩
  · obtain rfl : c = .slice none 0 0 := by simpa using hcs
    exact ⟨⟨none, 0, 0⟩, [], rfl, Reads.nil _ _, fun _ => rfl⟩
  · obtain rfl : c = .slice (some y) l cp := by simpa using hcs
    have hz' : zs.length = cp := by simpa using hz
    exact ⟨⟨some y, l, cp⟩, zs.take l, rfl, Reads.of_open hl hm hz' hcell hwz, fun h => by cases h⟩

theorem open_op {c0 c1 c2 c3 : Value} {x : DataW H × List MemPlace} (h : DataW.trod enc Try.prog W 0 (fun _ => true) true fuel 39 [c0, c1, c2, c3] = some x) :
    ∃ o : OpV, c0 = .int .i64 o.k ∧ c1 = .string o.t ∧ c2 = o.W.v ∧ c3 = .int .i64 o.n ∧ OpOk W o := by
  obtain ⟨xs, n, -, ex, -, hlen, hf⟩ := DataW.trod_struct Try.underlying39 h
  have hl : xs.length = 4 := hlen.trans (by rfl)
  match xs, hl with
  | [x0, x1, x2, x3], _ =>
  have g0 : DataW.trod enc Try.prog W 0 (fun _ => true) true n 3 [c0] = some x0 := by rw [show [c0] = ([c0, c1, c2, c3].drop 0).take (Try.prog.cellsOf 3) by rw [ce3]; rfl]; exact hf 0 _ rfl
  have g1 : DataW.trod enc Try.prog W 0 (fun _ => true) true n 9 [c1] = some x1 := by rw [show [c1] = ([c0, c1, c2, c3].drop 1).take (Try.prog.cellsOf 9) by rw [ce9]; rfl]; exact hf 1 _ rfl
  have g2 : DataW.trod enc Try.prog W 0 (fun _ => true) true n 37 [c2] = some x2 := by rw [show [c2] = ([c0, c1, c2, c3].drop 2).take (Try.prog.cellsOf 37) by rw [ce37]; rfl]; exact hf 2 _ rfl
  have g3 : DataW.trod enc Try.prog W 0 (fun _ => true) true n 3 [c3] = some x3 := by rw [show [c3] = ([c0, c1, c2, c3].drop 3).take (Try.prog.cellsOf 3) by rw [ce3]; rfl]; exact hf 3 _ rfl
  obtain ⟨z0, e0, -, -⟩ := DataW.trod_int Try.underlying3 g0
  obtain ⟨z1, e1, q1, ws1⟩ := DataW.trod_string Try.underlying9 g1
  obtain ⟨s2, y2, e2, r2, w2⟩ := open_w g2
  obtain ⟨z3, e3, -, wf3⟩ := DataW.trod_int Try.underlying3 g3
  exact ⟨⟨z0, z1, s2, y2, z3⟩, by simpa using e0, by simpa using e1, e2, by simpa using e3, ⟨r2, w2, by first | exact ws1 | exact q1 | simpa using ws1, by first | exact wf3 | simpa using wf3⟩⟩

theorem open_ops {a : Option Addr} {l c : Nat} {dd : DataW H} {p : List MemPlace} (h : DataW.Trod enc Try.prog W 0 (fun _ => true) true 22 (.slice a l c) dd p) :
    ∃ O : Nat → OpV, OpsAt W a l O ∧ (a = none → c = 0) ∧ l ≤ c := by
  obtain ⟨fuel, hf⟩ := h
  have hf' : DataW.trod enc Try.prog W 0 (fun _ => true) true fuel 22 [.slice a l c] = some (dd, p) := by simpa [Value.cells] using hf
  rcases Go.Deep.open_slice Try.underlying22 hf' with ⟨hcs, hd⟩ | ⟨a', len, cap, m, n, D, Pl, hcs, _, hl, hm, hmm, hxx, hx⟩
  · simp only [List.cons.injEq, Value.slice.injEq, and_true] at hcs
    obtain ⟨rfl, rfl, rfl⟩ := hcs
    exact ⟨fun _ => ⟨0, ⟨#[]⟩, ⟨none, 0, 0⟩, [], 0⟩, ⟨Nat.zero_le _, (fun h => by cases h), (fun x hx => by cases hx), fun i hi => by cases hi⟩, fun _ => rfl, Nat.le_refl _⟩
  · simp only [List.cons.injEq, Value.slice.injEq, and_true] at hcs
    obtain ⟨rfl, rfl, rfl⟩ := hcs
    have hlm : l ≤ m := by rw [hmm]; simp; exact hl
    rw [ce39] at hx
    obtain ⟨F, hF⟩ := choose_below (⟨0, ⟨#[]⟩, ⟨none, 0, 0⟩, [], 0⟩ : OpV) (n := l) (p := fun i o => (W.cell? (a'.add (i * 4)) = some (.int .i64 o.k) ∧ W.cell? ((a'.add (i * 4)).add 1) = some (.string o.t) ∧ W.cell? ((a'.add (i * 4)).add 2) = some o.W.v ∧ W.cell? ((a'.add (i * 4)).add 3) = some (.int .i64 o.n)) ∧ OpOk W o) (fun i hi => by
      obtain ⟨cs', h1, h2⟩ := hx i (by omega)
      obtain ⟨q1, hlen, q3⟩ := World.cells?_some h1
      match cs', hlen with
      | [c0, c1, c2, c3], _ =>
        obtain ⟨o, e0, e1, e2, e3, ok⟩ := open_op h2
        subst e0 e1 e2 e3
        exact ⟨o, ⟨q3 0 (by decide), q3 1 (by decide), q3 2 (by decide), q3 3 (by decide)⟩, ok⟩)
    refine ⟨F, ⟨by unfold maxLen at hm; omega, fun _ => ⟨_, rfl⟩, fun x hx' i hi => ?_, fun i hi => (hF i hi).2⟩, (fun h => by cases h), hl⟩
    obtain rfl := Option.some.inj hx'
    exact (hF i hi).1
end

/-- the cells of an act's variable -/
def boxC (o : OpV) : Array Value := #[.int .i64 o.k, .string o.t, .slice o.W.a o.W.n o.W.c, .int .i64 o.n]
/-- an act's variable -/
def BoxO (w : World) (x : Nat) (o : OpV) : Prop := w.heap[x]? = some (.cells (boxC o) 39 (0, 0))
theorem BoxO.new (w : World) (o : OpV) : BoxO (w.alloc (.cells (boxC o) 39)) w.heap.size o := heap_alloc_new w _
theorem BoxO.lt {w : World} {x : Nat} {o : OpV} (h : BoxO w x o) : x < w.heap.size := (Array.getElem?_eq_some_iff.1 h).1
theorem BoxO.row {w : World} {x : Nat} {o : OpV} (h : BoxO w x o) : Row 39 w x 4 := ⟨_, h, rfl⟩
theorem BoxO.keep {w w' : World} {x : Nat} {o : OpV} (h : BoxO w x o) (e : w'.heap[x]? = w.heap[x]?) : BoxO w' x o := e.trans h
theorem BoxO.below {w w' : World} {x : Nat} {o : OpV} (h : BoxO w x o) (b : Below w.heap.size w w') : BoxO w' x o := (b.block x h.lt).trans h
theorem BoxO.cells {w : World} {x : Nat} {o : OpV} (h : BoxO w x o) : w.cell? ⟨x, 0, none⟩ = some (.int .i64 o.k) ∧ w.cell? ⟨x, 1, none⟩ = some (.string o.t) ∧ w.cell? ⟨x, 2, none⟩ = some (.slice o.W.a o.W.n o.W.c) ∧ w.cell? ⟨x, 3, none⟩ = some (.int .i64 o.n) := by
  refine ⟨?_, ?_, ?_, ?_⟩ <;> (unfold World.cell?; rw [h]; rfl)

end Go.Proofs.Ytfggkkhehaafcaa
