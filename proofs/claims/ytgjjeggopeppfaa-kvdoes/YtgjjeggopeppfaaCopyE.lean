/- A row of numbers is copied onto an empty literal: it lies in a block of its own. -/
import Derived.Test.YtgjjeggopeppfaaRows
import Derived.Test.YtgjjeggopeppfaaPages
import Derived.Test.YtgjjeggopeppfaaBasis
import Derived.Test.YtgjjeggopeppfaaLeast
import Derived.Test.YtgjjeggopeppfaaSeqP
import Derived.WalkKit
import Derived.ProofKit
import Derived.OpenShut
import Derived.Below
import Derived.WalkLawsBesides
import Derived.Deep.QuietTactic
import Derived.BigQuiet
import Derived.OwnWalk
import Derived.Maps.AppendAt
import Derived.Laws.OwnMore
namespace Go.Proofs.Ytgjjeggopeppfaa
open Go.ChangeShapes Go.WideShapes Go.ChangeAt Go.RowKit
set_option linter.unusedVariables false
set_option linter.unusedSimpArgs false

/-- a row is copied into a new one: an empty literal has no room -/
theorem run_copyE {w : World} {g0 : Nat} (h0 : w.heap[g0]? = some (.cells #[] 3 (0, 0))) {B : Nat} (hB : B ≤ g0) (hB' : B ≤ w.heap.size) {a : Option Addr} {n c : Nat} {zs : List Int} (hs : Reads .i64 w a n zs) (hn : n ≤ 1000) :
    ∃ ca cc W2, (Builtin.append_ #[49, 49] 49 #[.slice (some ⟨g0, 0, none⟩) 0 0, .slice a n c]).run Try.prog w = .ok (.slice ca n cc) W2 ∧ RowI B W2 ca n cc zs ∧ (∃ y, ca = some y) ∧ Below w.heap.size w W2 := by
  obtain ⟨i0, hi, hz0, hz1, hz2⟩ := info_parts info3
  have hlen := hs.len
  by_cases hn0 : n = 0
  · subst hn0
    obtain rfl : zs = [] := List.eq_nil_of_length_eq_zero hlen
    refine ⟨some ⟨g0, 0, none⟩, 0, w, ?_, ⟨rfl, ⟨rfl, .inr ⟨g0, 0, #[], rfl, hB, h0, Nat.le_refl _, by decide, rfl, rfl⟩⟩, by simp⟩, ⟨_, rfl⟩, Below.refl _ _⟩
    cases a with
    | none => simp [Builtin.append_, run_underlying Try.underlying49, sizeOf, typeInfo, hi, Builtin.lenOf, Builtin.firstCells, storeCells]
    | some x => simp [Builtin.append_, run_underlying Try.underlying49, sizeOf, typeInfo, hi, Builtin.lenOf, Builtin.firstCells, storeCells, loadCells, loadCellsFrom]
  · obtain ⟨x, rfl⟩ := hs.some_ (by omega)
    have hnews : ∀ j u, (zs.map (Value.int .i64))[j]? = some u → w.cell? (x.add j) = some u := fun j u hj => by
      have hjm : j < n := by have := (List.getElem?_eq_some_iff.1 hj).1; rw [List.length_map] at this; omega
      rw [hs.cell x rfl j hjm, ← hj, ints_at zs j (by omega)]
    have hr := run_append_grow (P := Try.prog) w 49 49 3 i0 _ Try.underlying49 hi hz0 ⟨g0, 0, none⟩ 0 0 [] (by simp) (by simp) x n c (zs.map (Value.int .i64)) (by rw [hz1]; simpa using hlen) hnews (by omega) (by omega) (by rw [hz2]; exact growslice_fits (by omega) (by omega))
    simp only [Nat.zero_add] at hr
    have hge := grownCap_ge w n 0 3
    have hcm := grownCap_le_maxLen w n 0 3 (by unfold maxLen; omega)
    refine ⟨_, _, _, hr, ⟨hlen, ⟨by simp [hlen], .inr ⟨w.heap.size, _, _, rfl, hB', heap_alloc_new w.drew _, hge, hcm, ?_, ?_⟩⟩, hs.wf_mem⟩, ⟨_, rfl⟩, ?_⟩
    · simp [hlen, size_zeroCells]
      rw [show (Value.cells (.int .i64 0)).size = 1 from rfl]
      omega
    · simp [hlen]
    · have := below_new (Below.refl w.drew.heap.size w.drew) (.cells (([] : List Value).toArray ++ (zs.map (Value.int .i64)).toArray ++ Builtin.zeroCells (Value.cells (.int .i64 0)) (grownCap w n 0 3 - n)) 3)
      exact ⟨this.os, this.tape, this.output, this.size, this.block⟩

end Go.Proofs.Ytgjjeggopeppfaa
