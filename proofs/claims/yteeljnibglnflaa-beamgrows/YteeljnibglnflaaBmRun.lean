/- Single operations on beams; a beam appended. -/
import Derived.Test.YteeljnibglnflaaRows
import Derived.Test.YteeljnibglnflaaView
import Derived.Test.YteeljnibglnflaaOwn
import Derived.Test.YteeljnibglnflaaSteps
import Derived.Test.YteeljnibglnflaaBmZ
import Derived.Test.YteeljnibglnflaaBmAt
import Derived.Test.YteeljnibglnflaaBmWhole
import Derived.Test.YteeljnibglnflaaGInvIn
import Derived.WalkKit
import Derived.ProofKit
import Derived.OpenShut
import Derived.WalkLawsBesides
import Derived.Below
import Derived.Deep.QuietTactic
import Derived.BigQuiet
import Derived.Laws.AppendOwnNone
import Derived.Maps.AppendAt
import Derived.ArgAppend
namespace Go.Proofs.Yteeljnibglnflaa
set_option maxRecDepth 20000
open Go.ChangeShapes Go.WideShapes Go.ChangeAt Go.RowKit
set_option linter.unusedVariables false
set_option linter.unusedSimpArgs false

theorem run_lit29 (w : World) : (Instr.buildSlice 29 0 #[]).run Try.prog w = .ok (.slice (some ⟨w.heap.size, 0, none⟩) 0 0) (w.alloc (.cells #[] 3)) := by go_simp
theorem run_load29 {w : World} {p : Addr} {a : Option Addr} {n c : Nat} (h : w.cell? p = some (.slice a n c)) : (Instr.loadAt 29 (.pointer (some p))).run Try.prog w = .ok (.slice a n c) w := by go_simp
theorem run_load2 {w : World} {p : Addr} {z : Int} (h : w.cell? p = some (.int .i64 z)) : (Instr.loadAt 2 (.pointer (some p))).run Try.prog w = .ok (.int .i64 z) w := by go_simp
theorem run_load4 {w : World} {p : Addr} {z : Bool} (h : w.cell? p = some (.bool z)) : (Instr.loadAt 4 (.pointer (some p))).run Try.prog w = .ok (.bool z) w := by go_simp
theorem run_index22 (x y : Addr) (L c N : Nat) (h : N < L) (ey : x.add (N * 3) = y) (w : World) : (Instr.indexAt 22 (.slice (some x) L c) (.int .i64 (N : Nat))).run Try.prog w = .ok (.pointer (some y)) w := by
  have h' : (N : Int) < (L : Int) := by omega
  go_simp
theorem run_index27 (x y : Addr) (L c N : Nat) (h : N < L) (ey : x.add (N * 3) = y) (w : World) : (Instr.indexAt 27 (.slice (some x) L c) (.int .i64 (N : Nat))).run Try.prog w = .ok (.pointer (some y)) w := by
  have h' : (N : Int) < (L : Int) := by omega
  go_simp
theorem run_field42_0 (y : Addr) (w : World) : (Instr.fieldAt 42 (.pointer (some y)) 0).run Try.prog w = .ok (.pointer (some y)) w := by go_simp
theorem run_field42_1 (y : Addr) (w : World) : (Instr.fieldAt 42 (.pointer (some y)) 1).run Try.prog w = .ok (.pointer (some ⟨y.block, y.off + 1, none⟩)) w := by go_simp
theorem run_field42_2 (y : Addr) (w : World) : (Instr.fieldAt 42 (.pointer (some y)) 2).run Try.prog w = .ok (.pointer (some ⟨y.block, y.off + 2, none⟩)) w := by go_simp
theorem run_field40_0 (y : Addr) (w : World) : (Instr.fieldAt 40 (.pointer (some y)) 0).run Try.prog w = .ok (.pointer (some y)) w := by go_simp
theorem run_field40_1 (y : Addr) (w : World) : (Instr.fieldAt 40 (.pointer (some y)) 1).run Try.prog w = .ok (.pointer (some ⟨y.block, y.off + 1, none⟩)) w := by go_simp
theorem run_field40_2 (y : Addr) (w : World) : (Instr.fieldAt 40 (.pointer (some y)) 2).run Try.prog w = .ok (.pointer (some ⟨y.block, y.off + 2, none⟩)) w := by go_simp
theorem run_bm40 (a : Option Addr) (n c : Nat) (s : Int) (f : Bool) (w : World) : (Instr.build 40 #[(0, .slice a n c), (1, .int .i64 s), (2, .bool f)]).run Try.prog w = .ok (.agg #[.slice a n c, .int .i64 s, .bool f]) w := by go_simp
theorem run_bm42 (a : Option Addr) (n c : Nat) (s : Int) (f : Bool) (w : World) : (Instr.build 42 #[(0, .slice a n c), (1, .int .i64 s), (2, .bool f)]).run Try.prog w = .ok (.agg #[.slice a n c, .int .i64 s, .bool f]) w := by go_simp
theorem run_lit27 (a : Option Addr) (n c : Nat) (s : Int) (f : Bool) (w : World) : (Instr.buildSlice 27 1 #[(0, .agg #[.slice a n c, .int .i64 s, .bool f])]).run Try.prog w = .ok (.slice (some ⟨w.heap.size, 0, none⟩) 1 1) (w.alloc (.cells #[.slice a n c, .int .i64 s, .bool f] 40)) := by go_simp
theorem run_lit22 (a : Option Addr) (n c : Nat) (s : Int) (f : Bool) (w : World) : (Instr.buildSlice 22 1 #[(0, .agg #[.slice a n c, .int .i64 s, .bool f])]).run Try.prog w = .ok (.slice (some ⟨w.heap.size, 0, none⟩) 1 1) (w.alloc (.cells #[.slice a n c, .int .i64 s, .bool f] 42)) := by go_simp

/-- a row is copied into a new one: an empty literal has no room -/
theorem run_copy29 {w : World} {g0 : Nat} (h0 : w.heap[g0]? = some (.cells #[] 3 (0, 0))) {a : Option Addr} {n c : Nat} {zs : List Int} (hs : Reads .i64 w a n zs) (hn : n ≤ 17592186044416) :
    ∃ b cc W2, (Builtin.append_ #[29, 29] 29 #[.slice (some ⟨g0, 0, none⟩) 0 0, .slice a n c]).run Try.prog w = .ok (.slice (some ⟨b, 0, none⟩) n cc) W2 ∧ Reads .i64 W2 (some ⟨b, 0, none⟩) n zs ∧ n ≤ cc ∧ Below w.heap.size w W2 ∧ (b = g0 ∨ w.heap.size ≤ b) := by
  obtain ⟨i0, hi, hz0, hz1, hz2⟩ := info_parts info3
  have hlen := hs.len
  by_cases hn0 : n = 0
  · subst hn0
    obtain rfl : zs = [] := List.eq_nil_of_length_eq_zero hlen
    refine ⟨g0, 0, w, ?_, ⟨rfl, by omega, hs.wf, fun h => by omega, fun x hx i hi => by omega⟩, Nat.le_refl _, Below.refl _ _, .inl rfl⟩
    cases a with
    | none => simp [Builtin.append_, run_underlying Try.underlying29, sizeOf, typeInfo, hi, Builtin.lenOf, Builtin.firstCells, storeCells]
    | some x => simp [Builtin.append_, run_underlying Try.underlying29, sizeOf, typeInfo, hi, Builtin.lenOf, Builtin.firstCells, storeCells, loadCells, loadCellsFrom]
  · obtain ⟨x, rfl⟩ := hs.some_ (by omega)
    have hnews : ∀ j u, (zs.map (Value.int .i64))[j]? = some u → w.cell? (x.add j) = some u := fun j u hj => by
      have hjm : j < n := by have := (List.getElem?_eq_some_iff.1 hj).1; rw [List.length_map] at this; omega
      rw [hs.cell x rfl j hjm, ← hj, copy_at .i64 zs j (by omega)]
    have hr := run_append_grow (P := Try.prog) w 29 29 3 i0 _ Try.underlying29 hi hz0 ⟨g0, 0, none⟩ 0 0 [] (by simp) (by simp) x n c (zs.map (Value.int .i64)) (by rw [hz1]; simpa using hlen) hnews (by omega) (by omega) (by rw [hz2]; exact growslice_fits (by omega) (by omega))
    simp only [Nat.zero_add] at hr
    have hge := grownCap_ge w n 0 3
    have hcm := grownCap_le_maxLen w n 0 3 (by unfold maxLen; omega)
    have hB := below_new (Below.refl w.drew.heap.size w.drew) (.cells (([] : List Value).toArray ++ (zs.map (Value.int .i64)).toArray ++ Builtin.zeroCells (Value.cells (.int .i64 0)) (grownCap w n 0 3 - n)) 3)
    refine ⟨_, _, _, hr, ?_, hge, ⟨hB.os, hB.tape, hB.output, hB.size, hB.block⟩, .inr (Nat.le_refl _)⟩
    refine Reads.of_row hlen hs.max hs.wf_mem fun i hi' => ?_
    rw [Addr.add_lit, Nat.zero_add]
    show (w.drew.alloc _).cell? ⟨w.drew.heap.size, i, none⟩ = _
    rw [World.cell?_alloc_new]
    rw [Array.getElem?_append_left (by simp [hlen, hi'])]
    simp [hlen, hi', List.getD]

theorem cell3 (u0 u1 u2 : Value) (h0 : u0.oneCell' = true) (h1 : u1.oneCell' = true) (h2 : u2.oneCell' = true) : ∀ u ∈ [u0, u1, u2], u.oneCell' = true := by
  intro u hu
  simp only [List.mem_cons, List.not_mem_nil, or_false] at hu
  rcases hu with rfl | rfl | rfl <;> assumption

/-- a beam appended to beams of the call's own -/
theorem OwnBm.push {B : Nat} {w : World} {e t : TypeId} {v : Value} {k : Nat} {A : Nat → Option Addr} {C : Nat → Nat} {L : Nat → Bm} (h : OwnBm B w e v k A C L) (ht : Try.prog.underlying t = some (.slice e)) (hinfo : (Try.prog.info? e).map (fun i => (i.zero, i.size, i.bytes)) = some (some (.agg #[.slice none 0 0, .int .i64 0, .bool false]), 3, 40)) (hB : B ≤ w.heap.size) (hk : k ≤ 1000000) {p : Option Addr} {c : Nat}
    (hr : Reads .i64 w p (L k).t.length (L k).t) (hp : 0 < (L k).t.length → ∀ x, p = some x → ∀ g, v.ownBlock = some g → x.block ≠ g) (hn : p = none → c = 0) (hw : (Lit.int .i64 (L k).s).wf = true) :
    ∃ v' w', (Builtin.append_ #[t, t] t #[v, .slice (some ⟨w.heap.size, 0, none⟩) 1 1]).run Try.prog (w.alloc (.cells #[.slice p (L k).t.length c, .int .i64 (L k).s, .bool (L k).f] e)) = .ok v' w' ∧ OwnBm B w' e v' (k + 1) (fun r => if r = k then p else A r) (fun r => if r = k then c else C r) L ∧ (w.alloc (.cells #[.slice p (L k).t.length c, .int .i64 (L k).s, .bool (L k).f] e)).grownBy w' v.ownBlock ∧ (v'.ownBlock = v.ownBlock ∨ ∃ g, v'.ownBlock = some g ∧ w.heap.size ≤ g) := by
  obtain ⟨i0, hi, hz0, hz1, hz2⟩ := info_parts hinfo
  have b1 := below_new (Below.refl w.heap.size w) (.cells #[.slice p (L k).t.length c, .int .i64 (L k).s, .bool (L k).f] e)
  obtain ⟨v', w', hrun, ho, hg, _, hs⟩ := run_append_own_at (P := Try.prog) (w.alloc (.cells #[.slice p (L k).t.length c, .int .i64 (L k).s, .bool (L k).f] e)) B t t e i0 _ 3 40 ht hi hz0 hz1 hz2 rfl (by decide) v k _ (h.own.alloc _) ⟨w.heap.size, 0, none⟩ 1 1 [.slice p (L k).t.length c, .int .i64 (L k).s, .bool (L k).f] rfl (lit_new w _ e) (cell3 _ _ _ rfl rfl rfl) (by unfold maxLen; omega) (by omega) (by have := b1.size; omega)
  refine ⟨v', w', hrun, (h.below b1).app (hr.below b1) hp hn hw ho hg (hs.imp_right fun e => by simpa using e), hg, hs.imp_right fun e => ⟨_, e, by simp⟩⟩

end Go.Proofs.Yteeljnibglnflaa
