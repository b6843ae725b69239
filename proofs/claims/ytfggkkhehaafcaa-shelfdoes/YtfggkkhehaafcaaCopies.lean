/- Rows that are copied; the variable that holds an act; both pools together. -/
import Derived.Test.YtfggkkhehaafcaaRows
import Derived.Test.YtfggkkhehaafcaaPages
import Derived.Test.YtfggkkhehaafcaaView
import Derived.Test.YtfggkkhehaafcaaOwn
import Derived.Test.YtfggkkhehaafcaaSame
import Derived.Test.YtfggkkhehaafcaaReadsP
import Derived.Test.YtfggkkhehaafcaaReadsQ
import Derived.Test.YtfggkkhehaafcaaLeast
import Derived.Test.YtfggkkhehaafcaaLays
import Derived.Test.YtfggkkhehaafcaaTurns
import Derived.Test.YtfggkkhehaafcaaRefPg
import Derived.Test.YtfggkkhehaafcaaRefRd
import Derived.Test.YtfggkkhehaafcaaRefTk
import Derived.Test.YtfggkkhehaafcaaRefLays
import Derived.Test.YtfggkkhehaafcaaRefTurns
import Derived.Test.YtfggkkhehaafcaaNews
import Derived.Test.YtfggkkhehaafcaaGoods
import Derived.Test.YtfggkkhehaafcaaPlain
import Derived.Test.YtfggkkhehaafcaaPlace
import Derived.Test.YtfggkkhehaafcaaFetch
import Derived.Test.YtfggkkhehaafcaaPutReg
import Derived.Test.YtfggkkhehaafcaaInvIn
import Derived.WalkKit
import Derived.ProofKit
import Derived.OpenShut
import Derived.Below
import Derived.WalkLawsBesides
import Derived.Deep.QuietTactic
import Derived.BigQuiet
import Derived.Maps.AppendAt
import Derived.OwnWalk
import Derived.RangeFuncBox
namespace Go.Proofs.Ytfggkkhehaafcaa
open Go.ChangeShapes Go.WideShapes Go.ChangeAt Go.RowKit
set_option linter.unusedVariables false

set_option linter.unusedSimpArgs false

theorem empty_own {t : TypeId} {w : World} {B g : Nat} (h : w.heap[g]? = some (.cells #[] t (0, 0))) (hg : B ≤ g) : w.ownsRow B t 1 (.slice (some ⟨g, 0, none⟩) 0 0) 0 [] :=
  ⟨rfl, .inr ⟨g, 0, #[], rfl, hg, h, Nat.le_refl _, Nat.zero_le _, rfl, rfl⟩⟩

theorem run_copyB (w : World) (ty : TypeId) (a : Option Addr) (n c : Nat) (zs : List Int) (hs : Reads .i8 w a n zs) (hn : n * 1 ≤ 140737488355328) :
    ∃ ca cc W2, (Builtin.append_ #[37, 37] ty #[.slice (some ⟨w.heap.size, 0, none⟩) 0 0, .slice a n c]).run Try.prog (w.alloc (.cells #[] 59)) = .ok (.slice ca n cc) W2 ∧ RowB w.heap.size W2 ca n cc zs ∧ Below w.heap.size w W2 := by
  obtain ⟨i0, hi, hz0, hz1, hz2⟩ := info_parts info59
  have hlen := hs.len
  have hown : (w.alloc (.cells #[] 59)).ownsRow w.heap.size 59 1 (.slice (some ⟨w.heap.size, 0, none⟩) 0 0) 0 [] := empty_own (heap_alloc_new w _) (Nat.le_refl _)
  have hb1 := below_new (Below.refl w.heap.size w) (.cells #[] 59)
  by_cases h0 : n = 0
  · subst h0
    obtain rfl : zs = [] := List.eq_nil_of_length_eq_zero hlen
    refine ⟨some ⟨w.heap.size, 0, none⟩, 0, w.alloc (.cells #[] 59), ?_, ⟨rfl, hown, by simp⟩, hb1⟩
    cases a with
    | none => simp [Builtin.append_, run_underlying Try.underlying37, sizeOf, typeInfo, hi, Builtin.lenOf, Builtin.firstCells, storeCells]
    | some x => simp [Builtin.append_, run_underlying Try.underlying37, sizeOf, typeInfo, hi, Builtin.lenOf, Builtin.firstCells, storeCells, loadCells, loadCellsFrom]
  · obtain ⟨x, rfl⟩ := hs.some_ (by omega)
    have hs1 := hs.below hb1
    obtain ⟨v', w', hr, ho, hg, _, _⟩ := run_append_own_at (P := Try.prog) (w := w.alloc (.cells #[] 59)) w.heap.size 37 ty 59 i0 _ 1 1 Try.underlying37 hi hz0 hz1 hz2 rfl (by decide) _ 0 _ hown x n c (zs.map (Value.int .i8)) (by simpa using hlen)
      (fun j u hj => by
        have hjm : j < n := by have := (List.getElem?_eq_some_iff.1 hj).1; rw [List.length_map] at this; omega
        rw [hs1.cell x rfl j hjm, ← hj, bytes_at zs j (by omega)])
      (fun u hu => by obtain ⟨z, _, rfl⟩ := List.mem_map.1 hu; rfl) (by unfold maxLen; omega) (by omega) (by simp)
    simp only [Nat.zero_add, List.nil_append] at ho
    obtain ⟨a', c', rfl⟩ := own_form ho
    refine ⟨a', c', w', hr, ⟨hlen, ho, hs.wf_mem⟩, hb1.grown hg (by simp) (fun k e => (hown.lt k e).1)⟩

theorem run_copyI (w : World) (ty : TypeId) (a : Option Addr) (n c : Nat) (zs : List Int) (hs : Reads .i64 w a n zs) (hn : n * 8 ≤ 140737488355328) :
    ∃ ca cc W2, (Builtin.append_ #[58, 58] ty #[.slice (some ⟨w.heap.size, 0, none⟩) 0 0, .slice a n c]).run Try.prog (w.alloc (.cells #[] 3)) = .ok (.slice ca n cc) W2 ∧ RowI w.heap.size W2 ca n cc zs ∧ Below w.heap.size w W2 := by
  obtain ⟨i0, hi, hz0, hz1, hz2⟩ := info_parts info3
  have hlen := hs.len
  have hown : (w.alloc (.cells #[] 3)).ownsRow w.heap.size 3 1 (.slice (some ⟨w.heap.size, 0, none⟩) 0 0) 0 [] := empty_own (heap_alloc_new w _) (Nat.le_refl _)
  have hb1 := below_new (Below.refl w.heap.size w) (.cells #[] 3)
  by_cases h0 : n = 0
  · subst h0
    obtain rfl : zs = [] := List.eq_nil_of_length_eq_zero hlen
    refine ⟨some ⟨w.heap.size, 0, none⟩, 0, w.alloc (.cells #[] 3), ?_, ⟨rfl, hown, by simp⟩, hb1⟩
    cases a with
    | none => simp [Builtin.append_, run_underlying Try.underlying58, sizeOf, typeInfo, hi, Builtin.lenOf, Builtin.firstCells, storeCells]
    | some x => simp [Builtin.append_, run_underlying Try.underlying58, sizeOf, typeInfo, hi, Builtin.lenOf, Builtin.firstCells, storeCells, loadCells, loadCellsFrom]
  · obtain ⟨x, rfl⟩ := hs.some_ (by omega)
    have hs1 := hs.below hb1
    obtain ⟨v', w', hr, ho, hg, _, _⟩ := run_append_own_at (P := Try.prog) (w := w.alloc (.cells #[] 3)) w.heap.size 58 ty 3 i0 _ 1 8 Try.underlying58 hi hz0 hz1 hz2 rfl (by decide) _ 0 _ hown x n c (zs.map (Value.int .i64)) (by simpa using hlen)
      (fun j u hj => by
        have hjm : j < n := by have := (List.getElem?_eq_some_iff.1 hj).1; rw [List.length_map] at this; omega
        rw [hs1.cell x rfl j hjm, ← hj, ints_at zs j (by omega)])
      (fun u hu => by obtain ⟨z, _, rfl⟩ := List.mem_map.1 hu; rfl) (by unfold maxLen; omega) (by omega) (by simp)
    simp only [Nat.zero_add, List.nil_append] at ho
    obtain ⟨a', c', rfl⟩ := own_form ho
    refine ⟨a', c', w', hr, ⟨hlen, ho, hs.wf_mem⟩, hb1.grown hg (by simp) (fun k e => (hown.lt k e).1)⟩

end Go.Proofs.Ytfggkkhehaafcaa
