/- Rows that are copied; the variable that holds an act; both pools together. -/
import Derived.Test.YtjbocoheognneaaRows
import Derived.Test.YtjbocoheognneaaPages
import Derived.Test.YtjbocoheognneaaView
import Derived.Test.YtjbocoheognneaaOwn
import Derived.Test.YtjbocoheognneaaSame
import Derived.Test.YtjbocoheognneaaReadsP
import Derived.Test.YtjbocoheognneaaReadsQ
import Derived.Test.YtjbocoheognneaaLeast
import Derived.Test.YtjbocoheognneaaLays
import Derived.Test.YtjbocoheognneaaTurns
import Derived.Test.YtjbocoheognneaaRefPg
import Derived.Test.YtjbocoheognneaaRefRd
import Derived.Test.YtjbocoheognneaaRefTk
import Derived.Test.YtjbocoheognneaaRefLays
import Derived.Test.YtjbocoheognneaaRefTurns
import Derived.Test.YtjbocoheognneaaNews
import Derived.Test.YtjbocoheognneaaGoods
import Derived.Test.YtjbocoheognneaaPlain
import Derived.Test.YtjbocoheognneaaPlace
import Derived.Test.YtjbocoheognneaaFetch
import Derived.Test.YtjbocoheognneaaMany
import Derived.Test.YtjbocoheognneaaOpenOps
import Derived.Test.YtjbocoheognneaaTwice
import Derived.Test.YtjbocoheognneaaPutReg
import Derived.Test.YtjbocoheognneaaInvIn
import Derived.Test.YtjbocoheognneaaRegPl
import Derived.WalkKit
import Derived.ProofKit
import Derived.OpenShut
import Derived.Below
import Derived.WalkLawsBesides
import Derived.Deep.QuietTactic
import Derived.BigQuiet
import Derived.Maps.AppendAt
import Derived.OwnWalk
import Derived.RangeFuncBox
namespace Go.Proofs.Ytjbocoheognneaa
open Go.ChangeShapes Go.WideShapes Go.ChangeAt Go.RowKit
set_option linter.unusedVariables false

set_option linter.unusedSimpArgs false

theorem run_copyB (w : World) (ty : TypeId) (a : Option Addr) (n c : Nat) (zs : List Int) (hs : Reads .i8 w a n zs) (hn : n * 1 ≤ 140737488355328) :
    ∃ ca cc W2, (Builtin.append_ #[31, 31] ty #[.slice (some ⟨w.heap.size, 0, none⟩) 0 0, .slice a n c]).run Try.prog (w.alloc (.cells #[] 67)) = .ok (.slice ca n cc) W2 ∧ RowB w.heap.size W2 ca n cc zs ∧ Below w.heap.size w W2 := by
  obtain ⟨i0, hi, hz0, hz1, hz2⟩ := info_parts info67
  have hlen := hs.len
  have hown : (w.alloc (.cells #[] 67)).ownsRow w.heap.size 67 1 (.slice (some ⟨w.heap.size, 0, none⟩) 0 0) 0 [] := empty_own (heap_alloc_new w _) (Nat.le_refl _)
  have hb1 := below_new (Below.refl w.heap.size w) (.cells #[] 67)
  by_cases h0 : n = 0
  · subst h0
    obtain rfl : zs = [] := List.eq_nil_of_length_eq_zero hlen
    refine ⟨some ⟨w.heap.size, 0, none⟩, 0, w.alloc (.cells #[] 67), ?_, ⟨rfl, hown, by simp⟩, hb1⟩
    cases a with
    | none => simp [Builtin.append_, run_underlying Try.underlying31, sizeOf, typeInfo, hi, Builtin.lenOf, Builtin.firstCells, storeCells]
    | some x => simp [Builtin.append_, run_underlying Try.underlying31, sizeOf, typeInfo, hi, Builtin.lenOf, Builtin.firstCells, storeCells, loadCells, loadCellsFrom]
  · obtain ⟨x, rfl⟩ := hs.some_ (by omega)
    have hs1 := hs.below hb1
    obtain ⟨v', w', hr, ho, hg, _, _⟩ := run_append_own_at (P := Try.prog) (w := w.alloc (.cells #[] 67)) w.heap.size 31 ty 67 i0 _ 1 1 Try.underlying31 hi hz0 hz1 hz2 rfl (by decide) _ 0 _ hown x n c (zs.map (Value.int .i8)) (by simpa using hlen)
      (fun j u hj => by
        have hjm : j < n := by have := (List.getElem?_eq_some_iff.1 hj).1; rw [List.length_map] at this; omega
        rw [hs1.cell x rfl j hjm, ← hj, bytes_at zs j (by omega)])
      (fun u hu => by obtain ⟨z, _, rfl⟩ := List.mem_map.1 hu; rfl) (by unfold maxLen; omega) (by omega) (by simp)
    simp only [Nat.zero_add, List.nil_append] at ho
    obtain ⟨a', c', rfl⟩ := own_form ho
    refine ⟨a', c', w', hr, ⟨hlen, ho, hs.wf_mem⟩, hb1.grown hg (by simp) (fun k e => (hown.lt k e).1)⟩

theorem run_copyI (w : World) (ty : TypeId) (a : Option Addr) (n c : Nat) (zs : List Int) (hs : Reads .i64 w a n zs) (hn : n * 8 ≤ 140737488355328) :
    ∃ ca cc W2, (Builtin.append_ #[32, 32] ty #[.slice (some ⟨w.heap.size, 0, none⟩) 0 0, .slice a n c]).run Try.prog (w.alloc (.cells #[] 3)) = .ok (.slice ca n cc) W2 ∧ RowI w.heap.size W2 ca n cc zs ∧ Below w.heap.size w W2 := by
  obtain ⟨i0, hi, hz0, hz1, hz2⟩ := info_parts info3
  have hlen := hs.len
  have hown : (w.alloc (.cells #[] 3)).ownsRow w.heap.size 3 1 (.slice (some ⟨w.heap.size, 0, none⟩) 0 0) 0 [] := empty_own (heap_alloc_new w _) (Nat.le_refl _)
  have hb1 := below_new (Below.refl w.heap.size w) (.cells #[] 3)
  by_cases h0 : n = 0
  · subst h0
    obtain rfl : zs = [] := List.eq_nil_of_length_eq_zero hlen
    refine ⟨some ⟨w.heap.size, 0, none⟩, 0, w.alloc (.cells #[] 3), ?_, ⟨rfl, hown, by simp⟩, hb1⟩
    cases a with
    | none => simp [Builtin.append_, run_underlying Try.underlying32, sizeOf, typeInfo, hi, Builtin.lenOf, Builtin.firstCells, storeCells]
    | some x => simp [Builtin.append_, run_underlying Try.underlying32, sizeOf, typeInfo, hi, Builtin.lenOf, Builtin.firstCells, storeCells, loadCells, loadCellsFrom]
  · obtain ⟨x, rfl⟩ := hs.some_ (by omega)
    have hs1 := hs.below hb1
    obtain ⟨v', w', hr, ho, hg, _, _⟩ := run_append_own_at (P := Try.prog) (w := w.alloc (.cells #[] 3)) w.heap.size 32 ty 3 i0 _ 1 8 Try.underlying32 hi hz0 hz1 hz2 rfl (by decide) _ 0 _ hown x n c (zs.map (Value.int .i64)) (by simpa using hlen)
      (fun j u hj => by
        have hjm : j < n := by have := (List.getElem?_eq_some_iff.1 hj).1; rw [List.length_map] at this; omega
        rw [hs1.cell x rfl j hjm, ← hj, ints_at zs j (by omega)])
      (fun u hu => by obtain ⟨z, _, rfl⟩ := List.mem_map.1 hu; rfl) (by unfold maxLen; omega) (by omega) (by simp)
    simp only [Nat.zero_add, List.nil_append] at ho
    obtain ⟨a', c', rfl⟩ := own_form ho
    refine ⟨a', c', w', hr, ⟨hlen, ho, hs.wf_mem⟩, hb1.grown hg (by simp) (fun k e => (hown.lt k e).1)⟩

/-- the cells of an act's variable -/
def boxC (o : OpV) : Array Value := #[.int .i64 o.k, .string o.t, .slice o.W.a o.W.n o.W.c, .slice o.P.a o.P.n o.P.c, .int .i64 o.n, .int .i64 o.v]
/-- an act's variable -/
def BoxO (w : World) (x : Nat) (o : OpV) : Prop := w.heap[x]? = some (.cells (boxC o) 34 (0, 0))
theorem BoxO.new (w : World) (o : OpV) : BoxO (w.alloc (.cells (boxC o) 34)) w.heap.size o := heap_alloc_new w _
theorem BoxO.off {B : Nat} {T : TypeId → Bool} {w w' : World} {x : Nat} {o : OpV} (h : BoxO w x o) (f : Off B T w w') (hT : T 34 = false) : BoxO w' x o := (f.row (t := 34) (m := 6) ⟨_, h, rfl⟩ hT).trans h
theorem BoxO.below {w w' : World} {x : Nat} {o : OpV} (h : BoxO w x o) (b : Below w.heap.size w w') : BoxO w' x o := (b.block x (Array.getElem?_eq_some_iff.1 h).1).trans h
theorem BoxO.cells {w : World} {x : Nat} {o : OpV} (h : BoxO w x o) : w.cell? ⟨x, 0, none⟩ = some (.int .i64 o.k) ∧ w.cell? ⟨x, 1, none⟩ = some (.string o.t) ∧ w.cell? ⟨x, 2, none⟩ = some (.slice o.W.a o.W.n o.W.c) ∧ w.cell? ⟨x, 3, none⟩ = some (.slice o.P.a o.P.n o.P.c) ∧ w.cell? ⟨x, 4, none⟩ = some (.int .i64 o.n) ∧ w.cell? ⟨x, 5, none⟩ = some (.int .i64 o.v) := by
  refine ⟨?_, ?_, ?_, ?_, ?_, ?_⟩ <;> (unfold World.cell?; rw [h]; rfl)

def Both (B : Nat) (w : World) (b g b' g' : Nat) (s : Pl) : Prop := PoolAt B w b g s ∧ ∃ r, RefAt B w b' g' s r
theorem Both.below {B : Nat} {w w' : World} {b g b' g' : Nat} {s : Pl} (h : Both B w b g b' g' s) (o : Below w.heap.size w w') : Both B w' b g b' g' s := ⟨h.1.below o, by obtain ⟨r, hr⟩ := h.2; exact ⟨r, hr.below o⟩⟩

end Go.Proofs.Ytjbocoheognneaa
