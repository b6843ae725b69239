/- The regions of the statements that draw their order. -/
import Derived.Test.YtlpmndlefbghoaaRows
import Derived.Test.YtlpmndlefbghoaaView
import Derived.Test.YtlpmndlefbghoaaOwn
import Derived.Test.YtlpmndlefbghoaaSteps
import Derived.Test.YtlpmndlefbghoaaGrids
import Derived.Test.YtlpmndlefbghoaaInvIn
import Derived.Test.YtlpmndlefbghoaaHeld
import Derived.Test.YtlpmndlefbghoaaXpNeed
import Derived.Test.YtlpmndlefbghoaaXpGridB
import Derived.Test.YtlpmndlefbghoaaRegZ
import Derived.WalkKit
import Derived.ProofKit
import Derived.OpenShut
import Derived.Below
import Derived.WalkLawsBesides
import Derived.Deep.QuietTactic
import Derived.BigQuiet
import Derived.Orders
import Derived.Shelf.Abstract
import Derived.OwnWalk
import Derived.Maps.AppendAt
import Derived.Laws.OwnMore
namespace Go.Proofs.Ytlpmndlefbghoaa
open Go.ChangeShapes Go.WideShapes Go.ChangeAt Go.RowKit
set_option linter.unusedVariables false
set_option linter.unusedSimpArgs false

theorem heap_new (w : World) (o : Obj) : (w.alloc o).heap[w.heap.size]? = some o := by show (w.heap.push o)[w.heap.size]? = some o; simp

theorem run_build22 (w : World) : (Instr.buildSlice 22 0 #[]).run Try.prog w = .ok (.slice (some ⟨w.heap.size, 0, none⟩) 0 0) (w.alloc (.cells #[] 53)) := by go_simp

/-- a row is copied into a new one: an empty literal has no room -/
theorem run_copy22 {w : World} {g0 : Nat} (h0 : w.heap[g0]? = some (.cells #[] 53 (0, 0))) {a : Option Addr} {n c : Nat} {zs : List Int} (hs : Reads .i8 w a n zs) (hn : n ≤ 17592186044416) :
    ∃ ca cc W2, (Builtin.append_ #[22, 22] 22 #[.slice (some ⟨g0, 0, none⟩) 0 0, .slice a n c]).run Try.prog w = .ok (.slice ca n cc) W2 ∧ Reads .i8 W2 ca n zs ∧ n ≤ cc ∧ Below w.heap.size w W2 := by
  obtain ⟨i0, hi, hz0, hz1, hz2⟩ := info_parts info53
  have hlen := hs.len
  by_cases hn0 : n = 0
  · subst hn0
    obtain rfl : zs = [] := List.eq_nil_of_length_eq_zero hlen
    refine ⟨some ⟨g0, 0, none⟩, 0, w, ?_, ⟨rfl, by omega, hs.wf, fun h => by omega, fun x hx i hi => by omega⟩, Nat.le_refl _, Below.refl _ _⟩
    cases a with
    | none => simp [Builtin.append_, run_underlying Try.underlying22, sizeOf, typeInfo, hi, Builtin.lenOf, Builtin.firstCells, storeCells]
    | some x => simp [Builtin.append_, run_underlying Try.underlying22, sizeOf, typeInfo, hi, Builtin.lenOf, Builtin.firstCells, storeCells, loadCells, loadCellsFrom]
  · obtain ⟨x, rfl⟩ := hs.some_ (by omega)
    have hnews : ∀ j u, (zs.map (Value.int .i8))[j]? = some u → w.cell? (x.add j) = some u := fun j u hj => by
      have hjm : j < n := by have := (List.getElem?_eq_some_iff.1 hj).1; rw [List.length_map] at this; omega
      rw [hs.cell x rfl j hjm, ← hj, copy_at .i8 zs j (by omega)]
    have hr := run_append_grow (P := Try.prog) w 22 22 53 i0 _ Try.underlying22 hi hz0 ⟨g0, 0, none⟩ 0 0 [] (by simp) (by simp) x n c (zs.map (Value.int .i8)) (by rw [hz1]; simpa using hlen) hnews (by omega) (by omega) (by rw [hz2]; exact growslice_fits (by omega) (by omega))
    simp only [Nat.zero_add] at hr
    have hge := grownCap_ge w n 0 53
    have hcm := grownCap_le_maxLen w n 0 53 (by unfold maxLen; omega)
    have hB := below_new (Below.refl w.drew.heap.size w.drew) (.cells (([] : List Value).toArray ++ (zs.map (Value.int .i8)).toArray ++ Builtin.zeroCells (Value.cells (.int .i8 0)) (grownCap w n 0 53 - n)) 53)
    refine ⟨_, _, _, hr, ?_, hge, ⟨hB.os, hB.tape, hB.output, hB.size, hB.block⟩⟩
    refine Reads.of_row hlen hs.max hs.wf_mem fun i hi' => ?_
    rw [Addr.add_lit, Nat.zero_add]
    show (w.drew.alloc _).cell? ⟨w.drew.heap.size, i, none⟩ = _
    rw [World.cell?_alloc_new]
    rw [Array.getElem?_append_left (by simp [hlen, hi'])]
    simp [hlen, hi', List.getD]

theorem run_build24 (w : World) : (Instr.buildSlice 24 0 #[]).run Try.prog w = .ok (.slice (some ⟨w.heap.size, 0, none⟩) 0 0) (w.alloc (.cells #[] 2)) := by go_simp

/-- a row is copied into a new one: an empty literal has no room -/
theorem run_copy24 {w : World} {g0 : Nat} (h0 : w.heap[g0]? = some (.cells #[] 2 (0, 0))) {a : Option Addr} {n c : Nat} {zs : List Int} (hs : Reads .i64 w a n zs) (hn : n ≤ 17592186044416) :
    ∃ ca cc W2, (Builtin.append_ #[24, 24] 24 #[.slice (some ⟨g0, 0, none⟩) 0 0, .slice a n c]).run Try.prog w = .ok (.slice ca n cc) W2 ∧ Reads .i64 W2 ca n zs ∧ n ≤ cc ∧ Below w.heap.size w W2 := by
  obtain ⟨i0, hi, hz0, hz1, hz2⟩ := info_parts info2
  have hlen := hs.len
  by_cases hn0 : n = 0
  · subst hn0
    obtain rfl : zs = [] := List.eq_nil_of_length_eq_zero hlen
    refine ⟨some ⟨g0, 0, none⟩, 0, w, ?_, ⟨rfl, by omega, hs.wf, fun h => by omega, fun x hx i hi => by omega⟩, Nat.le_refl _, Below.refl _ _⟩
    cases a with
    | none => simp [Builtin.append_, run_underlying Try.underlying24, sizeOf, typeInfo, hi, Builtin.lenOf, Builtin.firstCells, storeCells]
    | some x => simp [Builtin.append_, run_underlying Try.underlying24, sizeOf, typeInfo, hi, Builtin.lenOf, Builtin.firstCells, storeCells, loadCells, loadCellsFrom]
  · obtain ⟨x, rfl⟩ := hs.some_ (by omega)
    have hnews : ∀ j u, (zs.map (Value.int .i64))[j]? = some u → w.cell? (x.add j) = some u := fun j u hj => by
      have hjm : j < n := by have := (List.getElem?_eq_some_iff.1 hj).1; rw [List.length_map] at this; omega
      rw [hs.cell x rfl j hjm, ← hj, copy_at .i64 zs j (by omega)]
    have hr := run_append_grow (P := Try.prog) w 24 24 2 i0 _ Try.underlying24 hi hz0 ⟨g0, 0, none⟩ 0 0 [] (by simp) (by simp) x n c (zs.map (Value.int .i64)) (by rw [hz1]; simpa using hlen) hnews (by omega) (by omega) (by rw [hz2]; exact growslice_fits (by omega) (by omega))
    simp only [Nat.zero_add] at hr
    have hge := grownCap_ge w n 0 2
    have hcm := grownCap_le_maxLen w n 0 2 (by unfold maxLen; omega)
    have hB := below_new (Below.refl w.drew.heap.size w.drew) (.cells (([] : List Value).toArray ++ (zs.map (Value.int .i64)).toArray ++ Builtin.zeroCells (Value.cells (.int .i64 0)) (grownCap w n 0 2 - n)) 2)
    refine ⟨_, _, _, hr, ?_, hge, ⟨hB.os, hB.tape, hB.output, hB.size, hB.block⟩⟩
    refine Reads.of_row hlen hs.max hs.wf_mem fun i hi' => ?_
    rw [Addr.add_lit, Nat.zero_add]
    show (w.drew.alloc _).cell? ⟨w.drew.heap.size, i, none⟩ = _
    rw [World.cell?_alloc_new]
    rw [Array.getElem?_append_left (by simp [hlen, hi'])]
    simp [hlen, hi', List.getD]
def emD (i : Nat) : Option Nat := match i with | 0 => some 16 | 1 => some 17 | 2 => some 18 | 3 => some 19 | 4 => some 20 | 5 => some 21 | 6 => some 22 | 7 => some 23 | 8 => some 24 | 9 => some 25 | 10 => some 26 | 11 => some 27 | 12 => some 28 | 13 => some 29 | 14 => some 30 | 15 => some 31 | 16 => some 32 | 17 => some 33 | 18 => some 34 | 19 => some 15 | 20 => some 35 | 21 => some 36 | 22 => some 3 | 23 => some 4 | _ => none
theorem emD_inj : ∀ i, i < 24 → ∀ j, j < 24 → emD i = emD j → emD i ≠ none → i = j := by decide
theorem emD_lt : ∀ i, i < 24 → ∀ d, emD i = some d → d < 108 := by
  intro i hi d h
  have : ∀ i, i < 24 → (emD i).all (fun d => decide (d < 108)) = true := by decide
  have := this i hi
  rw [h] at this
  simpa using this
def emF (b0 rn rc un uc dn dc xn xc : Nat) (ra ua da xa : Option Addr) (UU DD : Nat → List Int) (hh kk EE : Int) (rz xz LL : List Int) (i : Nat) (q : Value) (w : World) : Prop := match i with
  | 0 => ∃ g0, q = .slice (some ⟨g0, 0, none⟩) 0 0 ∧ w.heap[g0]? = some (.cells #[] 53 (0, 0))
  | 1 => q = .pointer (some ⟨b0, 0, none⟩)
  | 2 => q = .slice ra rn rc
  | 3 => ∃ ca cc, q = .slice ca rn cc ∧ Reads .i8 w ca rn rz ∧ rn ≤ cc
  | 4 => q = .pointer (some ⟨b0, 1, none⟩)
  | 5 => q = .slice ua un uc
  | 6 => ∃ z c A C, q = .slice z un c ∧ Nets w z un A C UU
  | 7 => q = .pointer (some ⟨b0, 2, none⟩)
  | 8 => q = .slice da dn dc
  | 9 => ∃ z c A C, q = .slice z dn c ∧ Nets w z dn A C DD
  | 10 => q = .pointer (some ⟨b0, 3, none⟩)
  | 11 => q = .int .i64 hh
  | 12 => q = .pointer (some ⟨b0, 4, none⟩)
  | 13 => q = .int .i64 kk
  | 14 => ∃ g0, q = .slice (some ⟨g0, 0, none⟩) 0 0 ∧ w.heap[g0]? = some (.cells #[] 2 (0, 0))
  | 15 => q = .pointer (some ⟨b0, 5, none⟩)
  | 16 => q = .slice xa xn xc
  | 17 => ∃ ca cc, q = .slice ca xn cc ∧ Reads .i64 w ca xn xz ∧ xn ≤ cc
  | 18 => ∃ b bn bc, q = .tuple #[.slice b bn bc, .int .i64 EE] ∧ Reads .i64 w b bn LL
  | 19 => ∃ b bn bc, q = .tuple #[.slice b bn bc, .int .i64 EE] ∧ Reads .i64 w b bn LL
  | 20 => ∃ b bn bc, q = .slice b bn bc ∧ Reads .i64 w b bn LL
  | 21 => q = .int .i64 EE
  | 22 => ∃ b bn bc, q = .slice b bn bc ∧ Reads .i64 w b bn LL
  | 23 => q = .int .i64 EE
  | _ => True
theorem emF_below {b0 rn rc un uc dn dc xn xc : Nat} {ra ua da xa : Option Addr} {UU DD : Nat → List Int} {hh kk EE : Int} {rz xz LL : List Int} {i : Nat} {q : Value} {w w' : World} (h : emF b0 rn rc un uc dn dc xn xc ra ua da xa UU DD hh kk EE rz xz LL i q w) (hb : Below w.heap.size w w') : emF b0 rn rc un uc dn dc xn xc ra ua da xa UU DD hh kk EE rz xz LL i q w' := by
  unfold emF at h ⊢
  split
  · obtain ⟨g0, h1, h2⟩ := h; exact ⟨g0, h1, (hb.block _ (Array.getElem?_eq_some_iff.1 h2).1).trans h2⟩
  · exact h
  · exact h
  · obtain ⟨ca, cc, h1, h2, h3⟩ := h; exact ⟨ca, cc, h1, h2.below hb, h3⟩
  · exact h
  · exact h
  · obtain ⟨b, c, A, C, h1, h2⟩ := h; exact ⟨b, c, A, C, h1, h2.below hb⟩
  · exact h
  · exact h
  · obtain ⟨b, c, A, C, h1, h2⟩ := h; exact ⟨b, c, A, C, h1, h2.below hb⟩
  · exact h
  · exact h
  · exact h
  · exact h
  · obtain ⟨g0, h1, h2⟩ := h; exact ⟨g0, h1, (hb.block _ (Array.getElem?_eq_some_iff.1 h2).1).trans h2⟩
  · exact h
  · exact h
  · obtain ⟨ca, cc, h1, h2, h3⟩ := h; exact ⟨ca, cc, h1, h2.below hb, h3⟩
  · obtain ⟨b, bn, bc, h1, h2⟩ := h; exact ⟨b, bn, bc, h1, h2.below hb⟩
  · obtain ⟨b, bn, bc, h1, h2⟩ := h; exact ⟨b, bn, bc, h1, h2.below hb⟩
  · obtain ⟨b, bn, bc, h1, h2⟩ := h; exact ⟨b, bn, bc, h1, h2.below hb⟩
  · exact h
  · obtain ⟨b, bn, bc, h1, h2⟩ := h; exact ⟨b, bn, bc, h1, h2.below hb⟩
  · exact h
  · trivial

set_option maxHeartbeats 8000000 in
theorem em_region {id : Nat} {ops : Array Oper} {Q : Exit → Act → World → Prop} {a0 : Act} {w0 : World} (b0 rn rc un uc dn dc xn xc : Nat) (ra ua da xa : Option Addr) (UU DD : Nat → List Int) (hh kk EE : Int) (rz xz LL : List Int) (S : World → Prop) (mS : ∀ w w', S w → Below w.heap.size w w' → S w') (hlow : lowB ops = true) (hsz : ops.size = 24)
    (o0 : OpIn ops 0 (some 16) (.buildSlice 22 0 #[]) none []) (o1 : OpIn ops 1 (some 17) (.fieldAddr 26 (.tmp 1) 0) none []) (o2 : OpIn ops 2 (some 18) (.load 22 (.tmp 17)) none [1]) (o3 : OpIn ops 3 (some 19) (.call { callee := .builtin .append, args := #[.tmp 16, .tmp 18], argTypes := #[22, 22] }) none [0, 2]) (o4 : OpIn ops 4 (some 20) (.fieldAddr 26 (.tmp 1) 1) none []) (o5 : OpIn ops 5 (some 21) (.load 23 (.tmp 20)) none [4]) (o6 : OpIn ops 6 (some 22) (.call { callee := .value (.func 10), args := #[.tmp 21], argTypes := #[23] }) none [5]) (o7 : OpIn ops 7 (some 23) (.fieldAddr 26 (.tmp 1) 2) none []) (o8 : OpIn ops 8 (some 24) (.load 23 (.tmp 23)) none [7]) (o9 : OpIn ops 9 (some 25) (.call { callee := .value (.func 10), args := #[.tmp 24], argTypes := #[23] }) none [8]) (o10 : OpIn ops 10 (some 26) (.fieldAddr 26 (.tmp 1) 3) none []) (o11 : OpIn ops 11 (some 27) (.load 3 (.tmp 26)) none [10]) (o12 : OpIn ops 12 (some 28) (.fieldAddr 26 (.tmp 1) 4) none []) (o13 : OpIn ops 13 (some 29) (.load 3 (.tmp 28)) none [12]) (o14 : OpIn ops 14 (some 30) (.buildSlice 24 0 #[]) none []) (o15 : OpIn ops 15 (some 31) (.fieldAddr 26 (.tmp 1) 5) none []) (o16 : OpIn ops 16 (some 32) (.load 24 (.tmp 31)) none [15]) (o17 : OpIn ops 17 (some 33) (.call { callee := .builtin .append, args := #[.tmp 30, .tmp 32], argTypes := #[24, 24] }) none [14, 16]) (o18 : OpIn ops 18 (some 34) (.call { callee := .value (.func 9), args := #[.tmp 19, .tmp 22, .tmp 25, .tmp 27, .tmp 29, .tmp 33], argTypes := #[22, 23, 23, 3, 3, 24] }) none [3, 6, 9, 11, 13, 17]) (o19 : OpIn ops 19 (some 15) (.move (.tmp 34)) none [18]) (o20 : OpIn ops 20 (some 35) (.extract (.tmp 15) 0) none [19]) (o21 : OpIn ops 21 (some 36) (.extract (.tmp 15) 1) none [19]) (o22 : OpIn ops 22 (some 3) (.assign (.tmp 35)) none [20]) (o23 : OpIn ops 23 (some 4) (.assign (.tmp 36)) none [21])
    (hS : S w0.drew)
    (x1 : ∀ w, (Instr.fieldAt 26 (.pointer (some ⟨b0, 0, none⟩)) 0).run Try.prog w = .ok (.pointer (some ⟨b0, 0, none⟩)) w)
    (x2 : ∀ w, S w → (Instr.loadAt 22 (.pointer (some ⟨b0, 0, none⟩))).run Try.prog w = .ok (.slice ra rn rc) w)
    (x4 : ∀ w, (Instr.fieldAt 26 (.pointer (some ⟨b0, 0, none⟩)) 1).run Try.prog w = .ok (.pointer (some ⟨b0, 1, none⟩)) w)
    (x5 : ∀ w, S w → (Instr.loadAt 23 (.pointer (some ⟨b0, 1, none⟩))).run Try.prog w = .ok (.slice ua un uc) w)
    (x6 : ∀ w, S w → Calls Try.prog 10 #[.slice ua un uc] w fun e w' => ∃ a c A C, e = .returned (.slice a un c) ∧ Nets w' a un A C UU ∧ Below w.heap.size w w' ∧ S w')
    (x7 : ∀ w, (Instr.fieldAt 26 (.pointer (some ⟨b0, 0, none⟩)) 2).run Try.prog w = .ok (.pointer (some ⟨b0, 2, none⟩)) w)
    (x8 : ∀ w, S w → (Instr.loadAt 23 (.pointer (some ⟨b0, 2, none⟩))).run Try.prog w = .ok (.slice da dn dc) w)
    (x9 : ∀ w, S w → Calls Try.prog 10 #[.slice da dn dc] w fun e w' => ∃ a c A C, e = .returned (.slice a dn c) ∧ Nets w' a dn A C DD ∧ Below w.heap.size w w' ∧ S w')
    (x10 : ∀ w, (Instr.fieldAt 26 (.pointer (some ⟨b0, 0, none⟩)) 3).run Try.prog w = .ok (.pointer (some ⟨b0, 3, none⟩)) w)
    (x11 : ∀ w, S w → (Instr.loadAt 3 (.pointer (some ⟨b0, 3, none⟩))).run Try.prog w = .ok (.int .i64 hh) w)
    (x12 : ∀ w, (Instr.fieldAt 26 (.pointer (some ⟨b0, 0, none⟩)) 4).run Try.prog w = .ok (.pointer (some ⟨b0, 4, none⟩)) w)
    (x13 : ∀ w, S w → (Instr.loadAt 3 (.pointer (some ⟨b0, 4, none⟩))).run Try.prog w = .ok (.int .i64 kk) w)
    (x15 : ∀ w, (Instr.fieldAt 26 (.pointer (some ⟨b0, 0, none⟩)) 5).run Try.prog w = .ok (.pointer (some ⟨b0, 5, none⟩)) w)
    (x16 : ∀ w, S w → (Instr.loadAt 24 (.pointer (some ⟨b0, 5, none⟩))).run Try.prog w = .ok (.slice xa xn xc) w)
    (x18 : ∀ w, S w → ∀ p q b b1 A C d d1 A' C' y z, Reads .i8 w p rn rz → rn ≤ q → Nets w b un A C UU → Nets w d dn A' C' DD → Reads .i64 w y xn xz → Calls Try.prog 9 #[.slice p rn q, .slice b un b1, .slice d dn d1, .int .i64 hh, .int .i64 kk, .slice y xn z] w fun e w' => ∃ b bn bc, e = .returned (.tuple #[.slice b bn bc, .int .i64 EE]) ∧ Reads .i64 w' b bn LL ∧ Below w.heap.size w w' ∧ S w')
    (x3 : ∀ w, S w → Reads .i8 w ra rn rz) (y3 : rn ≤ 17592186044416) (t3 : ∀ o, ops[3]? = some o → o.type = 22)
    (x17 : ∀ w, S w → Reads .i64 w xa xn xz) (y17 : xn ≤ 17592186044416) (t17 : ∀ o, ops[17]? = some o → o.type = 24)
    (u1 : a0.tmps.getD 1 undef = .pointer (some ⟨b0, 0, none⟩))
    (hs : 108 ≤ a0.tmps.size)
    (fin : ∀ a w, a.tmps.size = a0.tmps.size → a.defers = a0.defers → (∀ s, (∀ i, i < 24 → emD i ≠ some s) → a.tmps.getD s undef = a0.tmps.getD s undef) → S w → (∀ i d, i < 24 → emD i = some d → emF b0 rn rc un uc dn dc xn xc ra ua da xa UU DD hh kk EE rz xz LL i (a.tmps.getD d undef) w) → Q .normal a w) : (Code.region id ops true).wp Try.prog Q a0 w0 := by
  have r9 : ∀ args w, (callFunc 9 args).run Try.prog w = .ok (.enter 9 args) w := enters_of Try.func9 (by kernel_rfl) rfl
  have r10 : ∀ args w, (callFunc 10 args).run Try.prog w = .ok (.enter 10 args) w := enters_of Try.func10 (by kernel_rfl) rfl
  refine wp_region_inv2 (by kernel_rfl) hlow (Inv 24 emD a0 (fun _ _ w => S w) (fun _ => emF b0 rn rc un uc dn dc xn xc ra ua da xa UU DD hh kk EE rz xz LL)) (Inv.start hS) ?_ ?_
  · intro l i o a w ho hl hcl hdep hI
    have hi : i < 24 := by rw [← hsz]; exact (Array.getElem?_eq_some_iff.1 ho).1
    have ev : ∀ (s : Nat), a.eval (.tmp s) = a.tmps.getD s undef := fun _ => rfl
    have evf : ∀ f, a.eval (.func f) = .func (.func f) #[] #[] := fun _ => rfl
    have evc : ∀ c : Value, a.eval (.const c) = c := fun _ => rfl
    have inj : ∀ d, emD i = some d → ∀ j d', j < 24 → emD j = some d' → j ≠ i → d' ≠ d := fun d hd j d' hj hd' hne e => hne (emD_inj j hj i hi (by rw [hd', hd, e]) (by rw [hd']; simp))
    have kp : ∀ s, (∀ i, i < 24 → emD i ≠ some s) → a.tmps.getD s undef = a0.tmps.getD s undef := hI.kept
    have hw : S w := hI.world
    have go : ∀ {d : Nat} {v : Value} {w' : World}, emD i = some d → Below w.heap.size w w' → S w' → emF b0 rn rc un uc dn dc xn xc ra ua da xa UU DD hh kk EE rz xz LL i v w' → Inv 24 emD a0 (fun _ _ w => S w) (fun _ => emF b0 rn rc un uc dn dc xn xc ra ua da xa UU DD hh kk EE rz xz LL) (fun j => l j || j == i) (a.put (some d) v) w' := by
      intro d v w' hD hb hS' hF
      exact hI.put hi hD (Nat.lt_of_lt_of_le (emD_lt i hi d hD) hs) (inj d hD) hS' hF (fun j u _ _ _ hf => emF_below hf hb)
    rcases (show i = 0 ∨ i = 1 ∨ i = 2 ∨ i = 3 ∨ i = 4 ∨ i = 5 ∨ i = 6 ∨ i = 7 ∨ i = 8 ∨ i = 9 ∨ i = 10 ∨ i = 11 ∨ i = 12 ∨ i = 13 ∨ i = 14 ∨ i = 15 ∨ i = 16 ∨ i = 17 ∨ i = 18 ∨ i = 19 ∨ i = 20 ∨ i = 21 ∨ i = 22 ∨ i = 23 by omega) with rfl | rfl | rfl | rfl | rfl | rfl | rfl | rfl | rfl | rfl | rfl | rfl | rfl | rfl | rfl | rfl | rfl | rfl | rfl | rfl | rfl | rfl | rfl | rfl
    · obtain ⟨o', e1, e2, e3, e4, e5⟩ := o0
      obtain rfl := Option.some.inj (ho.symm.trans e1)
      have hb1 := below_new (Below.refl w.heap.size w) (.cells #[] 53)
      exact wpOp_value (v := .slice (some ⟨w.heap.size, 0, none⟩) 0 0) (w' := w.alloc (.cells #[] 53)) ho e4 (by simp [execOp, e3, run_build22]) (by rw [e2]; exact go rfl hb1 (mS _ _ hw hb1) ⟨_, rfl, heap_new w _⟩)
    · obtain ⟨o', e1, e2, e3, e4, e5⟩ := o1
      obtain rfl := Option.some.inj (ho.symm.trans e1)
      have dp := dep_of' e5 hdep
      have U1 : a.tmps.getD 1 undef = .pointer (some ⟨b0, 0, none⟩) := (kp 1 (by decide)).trans u1
      exact wpOp_value (v := .pointer (some ⟨b0, 0, none⟩)) (w' := w) ho e4 (by simp [execOp, e3, ev, evc, U1, x1 w]) (by rw [e2]; exact go rfl (Below.refl _ _) hw rfl)
    · obtain ⟨o', e1, e2, e3, e4, e5⟩ := o2
      obtain rfl := Option.some.inj (ho.symm.trans e1)
      have dp := dep_of' e5 hdep
      have V1 : a.tmps.getD 17 undef = .pointer (some ⟨b0, 0, none⟩) := hI.val 1 17 (by decide) rfl (dp 1 (by decide))
      exact wpOp_value (v := .slice ra rn rc) (w' := w) ho e4 (by simp [execOp, e3, ev, evc, V1, x2 w hw]) (by rw [e2]; exact go rfl (Below.refl _ _) hw rfl)
    · obtain ⟨o', e1, e2, e3, e4, e5⟩ := o3
      obtain rfl := Option.some.inj (ho.symm.trans e1)
      have dp := dep_of' e5 hdep
      obtain ⟨g0, V0, f0⟩ : ∃ g0, a.tmps.getD 16 undef = .slice (some ⟨g0, 0, none⟩) 0 0 ∧ w.heap[g0]? = some (.cells #[] 53 (0, 0)) := hI.val 0 16 (by decide) rfl (dp 0 (by decide))
      have V2 : a.tmps.getD 18 undef = .slice ra rn rc := hI.val 2 18 (by decide) rfl (dp 2 (by decide))
      obtain ⟨ca, cc, W2, hap, hrow, hcap, hb1⟩ := run_copy22 f0 (c := rc) (x3 w hw) y3
      exact wpOp_value (v := .slice ca rn cc) (w' := W2) ho e4 (by simp only [execOp, e3, resolve, invoke, builtin, Sem.run_bind, Sem.run_pure, Result.andThen_ok, List.map_toArray, List.map_cons, List.map_nil, ev, V0, V2, t3 _ ho, hap]) (by rw [e2]; exact go rfl hb1 (mS _ _ hw hb1) ⟨_, _, rfl, hrow, hcap⟩)
    · obtain ⟨o', e1, e2, e3, e4, e5⟩ := o4
      obtain rfl := Option.some.inj (ho.symm.trans e1)
      have dp := dep_of' e5 hdep
      have U1 : a.tmps.getD 1 undef = .pointer (some ⟨b0, 0, none⟩) := (kp 1 (by decide)).trans u1
      exact wpOp_value (v := .pointer (some ⟨b0, 1, none⟩)) (w' := w) ho e4 (by simp [execOp, e3, ev, evc, U1, x4 w]) (by rw [e2]; exact go rfl (Below.refl _ _) hw rfl)
    · obtain ⟨o', e1, e2, e3, e4, e5⟩ := o5
      obtain rfl := Option.some.inj (ho.symm.trans e1)
      have dp := dep_of' e5 hdep
      have V4 : a.tmps.getD 20 undef = .pointer (some ⟨b0, 1, none⟩) := hI.val 4 20 (by decide) rfl (dp 4 (by decide))
      exact wpOp_value (v := .slice ua un uc) (w' := w) ho e4 (by simp [execOp, e3, ev, evc, V4, x5 w hw]) (by rw [e2]; exact go rfl (Below.refl _ _) hw rfl)
    · obtain ⟨o', e1, e2, e3, e4, e5⟩ := o6
      obtain rfl := Option.some.inj (ho.symm.trans e1)
      have dp := dep_of' e5 hdep
      have V5 : a.tmps.getD 21 undef = .slice ua un uc := hI.val 5 21 (by decide) rfl (dp 5 (by decide))
      refine wpOp_call (f := 10) (args := #[.slice ua un uc]) ho e4 (by simp [execOp, e3, resolve, invoke, Deferred.ofValue, r10, ev, evf, evc, V5]) ((x6 w hw).mono ?_)
      rintro e W' ⟨b, c, A, C, rfl, hr6, hb6, hs6⟩
      refine ⟨_, rfl, ?_⟩
      rw [e2]
      exact go rfl hb6 hs6 ⟨b, c, A, C, rfl, hr6⟩
    · obtain ⟨o', e1, e2, e3, e4, e5⟩ := o7
      obtain rfl := Option.some.inj (ho.symm.trans e1)
      have dp := dep_of' e5 hdep
      have U1 : a.tmps.getD 1 undef = .pointer (some ⟨b0, 0, none⟩) := (kp 1 (by decide)).trans u1
      exact wpOp_value (v := .pointer (some ⟨b0, 2, none⟩)) (w' := w) ho e4 (by simp [execOp, e3, ev, evc, U1, x7 w]) (by rw [e2]; exact go rfl (Below.refl _ _) hw rfl)
    · obtain ⟨o', e1, e2, e3, e4, e5⟩ := o8
      obtain rfl := Option.some.inj (ho.symm.trans e1)
      have dp := dep_of' e5 hdep
      have V7 : a.tmps.getD 23 undef = .pointer (some ⟨b0, 2, none⟩) := hI.val 7 23 (by decide) rfl (dp 7 (by decide))
      exact wpOp_value (v := .slice da dn dc) (w' := w) ho e4 (by simp [execOp, e3, ev, evc, V7, x8 w hw]) (by rw [e2]; exact go rfl (Below.refl _ _) hw rfl)
    · obtain ⟨o', e1, e2, e3, e4, e5⟩ := o9
      obtain rfl := Option.some.inj (ho.symm.trans e1)
      have dp := dep_of' e5 hdep
      have V8 : a.tmps.getD 24 undef = .slice da dn dc := hI.val 8 24 (by decide) rfl (dp 8 (by decide))
      refine wpOp_call (f := 10) (args := #[.slice da dn dc]) ho e4 (by simp [execOp, e3, resolve, invoke, Deferred.ofValue, r10, ev, evf, evc, V8]) ((x9 w hw).mono ?_)
      rintro e W' ⟨b, c, A, C, rfl, hr6, hb6, hs6⟩
      refine ⟨_, rfl, ?_⟩
      rw [e2]
      exact go rfl hb6 hs6 ⟨b, c, A, C, rfl, hr6⟩
    · obtain ⟨o', e1, e2, e3, e4, e5⟩ := o10
      obtain rfl := Option.some.inj (ho.symm.trans e1)
      have dp := dep_of' e5 hdep
      have U1 : a.tmps.getD 1 undef = .pointer (some ⟨b0, 0, none⟩) := (kp 1 (by decide)).trans u1
      exact wpOp_value (v := .pointer (some ⟨b0, 3, none⟩)) (w' := w) ho e4 (by simp [execOp, e3, ev, evc, U1, x10 w]) (by rw [e2]; exact go rfl (Below.refl _ _) hw rfl)
    · obtain ⟨o', e1, e2, e3, e4, e5⟩ := o11
      obtain rfl := Option.some.inj (ho.symm.trans e1)
      have dp := dep_of' e5 hdep
      have V10 : a.tmps.getD 26 undef = .pointer (some ⟨b0, 3, none⟩) := hI.val 10 26 (by decide) rfl (dp 10 (by decide))
      exact wpOp_value (v := .int .i64 hh) (w' := w) ho e4 (by simp [execOp, e3, ev, evc, V10, x11 w hw]) (by rw [e2]; exact go rfl (Below.refl _ _) hw rfl)
    · obtain ⟨o', e1, e2, e3, e4, e5⟩ := o12
      obtain rfl := Option.some.inj (ho.symm.trans e1)
      have dp := dep_of' e5 hdep
      have U1 : a.tmps.getD 1 undef = .pointer (some ⟨b0, 0, none⟩) := (kp 1 (by decide)).trans u1
      exact wpOp_value (v := .pointer (some ⟨b0, 4, none⟩)) (w' := w) ho e4 (by simp [execOp, e3, ev, evc, U1, x12 w]) (by rw [e2]; exact go rfl (Below.refl _ _) hw rfl)
    · obtain ⟨o', e1, e2, e3, e4, e5⟩ := o13
      obtain rfl := Option.some.inj (ho.symm.trans e1)
      have dp := dep_of' e5 hdep
      have V12 : a.tmps.getD 28 undef = .pointer (some ⟨b0, 4, none⟩) := hI.val 12 28 (by decide) rfl (dp 12 (by decide))
      exact wpOp_value (v := .int .i64 kk) (w' := w) ho e4 (by simp [execOp, e3, ev, evc, V12, x13 w hw]) (by rw [e2]; exact go rfl (Below.refl _ _) hw rfl)
    · obtain ⟨o', e1, e2, e3, e4, e5⟩ := o14
      obtain rfl := Option.some.inj (ho.symm.trans e1)
      have hb1 := below_new (Below.refl w.heap.size w) (.cells #[] 2)
      exact wpOp_value (v := .slice (some ⟨w.heap.size, 0, none⟩) 0 0) (w' := w.alloc (.cells #[] 2)) ho e4 (by simp [execOp, e3, run_build24]) (by rw [e2]; exact go rfl hb1 (mS _ _ hw hb1) ⟨_, rfl, heap_new w _⟩)
    · obtain ⟨o', e1, e2, e3, e4, e5⟩ := o15
      obtain rfl := Option.some.inj (ho.symm.trans e1)
      have dp := dep_of' e5 hdep
      have U1 : a.tmps.getD 1 undef = .pointer (some ⟨b0, 0, none⟩) := (kp 1 (by decide)).trans u1
      exact wpOp_value (v := .pointer (some ⟨b0, 5, none⟩)) (w' := w) ho e4 (by simp [execOp, e3, ev, evc, U1, x15 w]) (by rw [e2]; exact go rfl (Below.refl _ _) hw rfl)
    · obtain ⟨o', e1, e2, e3, e4, e5⟩ := o16
      obtain rfl := Option.some.inj (ho.symm.trans e1)
      have dp := dep_of' e5 hdep
      have V15 : a.tmps.getD 31 undef = .pointer (some ⟨b0, 5, none⟩) := hI.val 15 31 (by decide) rfl (dp 15 (by decide))
      exact wpOp_value (v := .slice xa xn xc) (w' := w) ho e4 (by simp [execOp, e3, ev, evc, V15, x16 w hw]) (by rw [e2]; exact go rfl (Below.refl _ _) hw rfl)
    · obtain ⟨o', e1, e2, e3, e4, e5⟩ := o17
      obtain rfl := Option.some.inj (ho.symm.trans e1)
      have dp := dep_of' e5 hdep
      obtain ⟨g14, V14, f14⟩ : ∃ g0, a.tmps.getD 30 undef = .slice (some ⟨g0, 0, none⟩) 0 0 ∧ w.heap[g0]? = some (.cells #[] 2 (0, 0)) := hI.val 14 30 (by decide) rfl (dp 14 (by decide))
      have V16 : a.tmps.getD 32 undef = .slice xa xn xc := hI.val 16 32 (by decide) rfl (dp 16 (by decide))
      obtain ⟨ca, cc, W2, hap, hrow, hcap, hb1⟩ := run_copy24 f14 (c := xc) (x17 w hw) y17
      exact wpOp_value (v := .slice ca xn cc) (w' := W2) ho e4 (by simp only [execOp, e3, resolve, invoke, builtin, Sem.run_bind, Sem.run_pure, Result.andThen_ok, List.map_toArray, List.map_cons, List.map_nil, ev, V14, V16, t17 _ ho, hap]) (by rw [e2]; exact go rfl hb1 (mS _ _ hw hb1) ⟨_, _, rfl, hrow, hcap⟩)
    · obtain ⟨o', e1, e2, e3, e4, e5⟩ := o18
      obtain rfl := Option.some.inj (ho.symm.trans e1)
      have dp := dep_of' e5 hdep
      obtain ⟨ca3, cc3, V3, f3, z3⟩ : ∃ ca cc, a.tmps.getD 19 undef = .slice ca rn cc ∧ Reads .i8 w ca rn rz ∧ rn ≤ cc := hI.val 3 19 (by decide) rfl (dp 3 (by decide))
      obtain ⟨b6, c6, A6, C6, V6, f6⟩ : ∃ z c A C, a.tmps.getD 22 undef = .slice z un c ∧ Nets w z un A C UU := hI.val 6 22 (by decide) rfl (dp 6 (by decide))
      obtain ⟨b9, c9, A9, C9, V9, f9⟩ : ∃ z c A C, a.tmps.getD 25 undef = .slice z dn c ∧ Nets w z dn A C DD := hI.val 9 25 (by decide) rfl (dp 9 (by decide))
      have V11 : a.tmps.getD 27 undef = .int .i64 hh := hI.val 11 27 (by decide) rfl (dp 11 (by decide))
      have V13 : a.tmps.getD 29 undef = .int .i64 kk := hI.val 13 29 (by decide) rfl (dp 13 (by decide))
      obtain ⟨ca17, cc17, V17, f17, z17⟩ : ∃ ca cc, a.tmps.getD 33 undef = .slice ca xn cc ∧ Reads .i64 w ca xn xz ∧ xn ≤ cc := hI.val 17 33 (by decide) rfl (dp 17 (by decide))
      refine wpOp_call (f := 9) (args := #[.slice ca3 rn cc3, .slice b6 un c6, .slice b9 dn c9, .int .i64 hh, .int .i64 kk, .slice ca17 xn cc17]) ho e4 (by simp [execOp, e3, resolve, invoke, Deferred.ofValue, r9, ev, evf, evc, V3, V6, V9, V11, V13, V17]) ((x18 w hw ca3 cc3 b6 c6 A6 C6 b9 c9 A9 C9 ca17 cc17 f3 z3 f6 f9 f17).mono ?_)
      rintro e W' ⟨b, bn, bc, rfl, hr6, hb6, hs6⟩
      refine ⟨_, rfl, ?_⟩
      rw [e2]
      exact go rfl hb6 hs6 ⟨b, bn, bc, rfl, hr6⟩
    · obtain ⟨o', e1, e2, e3, e4, e5⟩ := o19
      obtain rfl := Option.some.inj (ho.symm.trans e1)
      have dp := dep_of' e5 hdep
      obtain ⟨b18, n18, c18, V18, f18⟩ : ∃ b bn bc, a.tmps.getD 34 undef = .tuple #[.slice b bn bc, .int .i64 EE] ∧ Reads .i64 w b bn LL := hI.val 18 34 (by decide) rfl (dp 18 (by decide))
      exact wpOp_value (v := .tuple #[.slice b18 n18 c18, .int .i64 EE]) (w' := w) ho e4 (by simp [execOp, e3, ev, evc, V18]) (by rw [e2]; exact go rfl (Below.refl _ _) hw ⟨_, _, _, rfl, f18⟩)
    · obtain ⟨o', e1, e2, e3, e4, e5⟩ := o20
      obtain rfl := Option.some.inj (ho.symm.trans e1)
      have dp := dep_of' e5 hdep
      obtain ⟨b19, n19, c19, V19, f19⟩ : ∃ b bn bc, a.tmps.getD 15 undef = .tuple #[.slice b bn bc, .int .i64 EE] ∧ Reads .i64 w b bn LL := hI.val 19 15 (by decide) rfl (dp 19 (by decide))
      exact wpOp_value (v := .slice b19 n19 c19) (w' := w) ho e4 (by simp [execOp, e3, ev, evc, V19, Instr.extract]) (by rw [e2]; exact go rfl (Below.refl _ _) hw ⟨_, _, _, rfl, f19⟩)
    · obtain ⟨o', e1, e2, e3, e4, e5⟩ := o21
      obtain rfl := Option.some.inj (ho.symm.trans e1)
      have dp := dep_of' e5 hdep
      obtain ⟨b19, n19, c19, V19, f19⟩ : ∃ b bn bc, a.tmps.getD 15 undef = .tuple #[.slice b bn bc, .int .i64 EE] ∧ Reads .i64 w b bn LL := hI.val 19 15 (by decide) rfl (dp 19 (by decide))
      exact wpOp_value (v := .int .i64 EE) (w' := w) ho e4 (by simp [execOp, e3, ev, evc, V19, Instr.extract]) (by rw [e2]; exact go rfl (Below.refl _ _) hw rfl)
    · obtain ⟨o', e1, e2, e3, e4, e5⟩ := o22
      obtain rfl := Option.some.inj (ho.symm.trans e1)
      have dp := dep_of' e5 hdep
      obtain ⟨b20, n20, c20, V20, f20⟩ : ∃ b bn bc, a.tmps.getD 35 undef = .slice b bn bc ∧ Reads .i64 w b bn LL := hI.val 20 35 (by decide) rfl (dp 20 (by decide))
      exact wpOp_value (v := .slice b20 n20 c20) (w' := w) ho e4 (by simp [execOp, e3, ev, evc, V20]) (by rw [e2]; exact go rfl (Below.refl _ _) hw ⟨_, _, _, rfl, f20⟩)
    · obtain ⟨o', e1, e2, e3, e4, e5⟩ := o23
      obtain rfl := Option.some.inj (ho.symm.trans e1)
      have dp := dep_of' e5 hdep
      have V21 : a.tmps.getD 36 undef = .int .i64 EE := hI.val 21 36 (by decide) rfl (dp 21 (by decide))
      exact wpOp_value (v := .int .i64 EE) (w' := w) ho e4 (by simp [execOp, e3, ev, evc, V21]) (by rw [e2]; exact go rfl (Below.refl _ _) hw rfl)
  · intro l a w hall hI
    have all : ∀ j, j < 24 → l j = true := fun j hj => hall j (by rw [hsz]; exact hj)
    exact fin a w hI.size hI.defers hI.kept hI.world (fun i d hi hD => hI.val i d hi hD (all i hi))
def erD (i : Nat) : Option Nat := match i with | 0 => some 54 | 1 => some 55 | 2 => some 56 | 3 => some 57 | 4 => some 58 | 5 => some 59 | 6 => some 60 | 7 => some 61 | 8 => some 62 | 9 => some 63 | 10 => some 64 | 11 => some 65 | 12 => some 66 | 13 => some 67 | 14 => some 53 | 15 => some 68 | 16 => some 69 | 17 => some 70 | 18 => some 7 | 19 => some 8 | 20 => some 9 | _ => none
theorem erD_inj : ∀ i, i < 21 → ∀ j, j < 21 → erD i = erD j → erD i ≠ none → i = j := by decide
theorem erD_lt : ∀ i, i < 21 → ∀ d, erD i = some d → d < 108 := by
  intro i hi d h
  have : ∀ i, i < 21 → (erD i).all (fun d => decide (d < 108)) = true := by decide
  have := this i hi
  rw [h] at this
  simpa using this
def erF (b0 rn rc un uc xn xc : Nat) (ra ua xa : Option Addr) (kk EE : Int) (rz xz LP LL : List Int) (i : Nat) (q : Value) (w : World) : Prop := match i with
  | 0 => ∃ g0, q = .slice (some ⟨g0, 0, none⟩) 0 0 ∧ w.heap[g0]? = some (.cells #[] 53 (0, 0))
  | 1 => q = .pointer (some ⟨b0, 0, none⟩)
  | 2 => q = .slice ra rn rc
  | 3 => ∃ ca cc, q = .slice ca rn cc ∧ Reads .i8 w ca rn rz ∧ rn ≤ cc
  | 4 => q = .pointer (some ⟨b0, 1, none⟩)
  | 5 => q = .slice ua un uc
  | 6 => q = .int .i64 (un : Nat)
  | 7 => q = .pointer (some ⟨b0, 4, none⟩)
  | 8 => q = .int .i64 kk
  | 9 => ∃ g0, q = .slice (some ⟨g0, 0, none⟩) 0 0 ∧ w.heap[g0]? = some (.cells #[] 2 (0, 0))
  | 10 => q = .pointer (some ⟨b0, 5, none⟩)
  | 11 => q = .slice xa xn xc
  | 12 => ∃ ca cc, q = .slice ca xn cc ∧ Reads .i64 w ca xn xz ∧ xn ≤ cc
  | 13 => ∃ p pn pc b bn bc, q = .tuple #[.slice p pn pc, .slice b bn bc, .int .i64 EE] ∧ Reads .i64 w p pn LP ∧ Reads .i64 w b bn LL
  | 14 => ∃ p pn pc b bn bc, q = .tuple #[.slice p pn pc, .slice b bn bc, .int .i64 EE] ∧ Reads .i64 w p pn LP ∧ Reads .i64 w b bn LL
  | 15 => ∃ p pn pc, q = .slice p pn pc ∧ Reads .i64 w p pn LP
  | 16 => ∃ b bn bc, q = .slice b bn bc ∧ Reads .i64 w b bn LL
  | 17 => q = .int .i64 EE
  | 18 => ∃ p pn pc, q = .slice p pn pc ∧ Reads .i64 w p pn LP
  | 19 => ∃ b bn bc, q = .slice b bn bc ∧ Reads .i64 w b bn LL
  | 20 => q = .int .i64 EE
  | _ => True
theorem erF_below {b0 rn rc un uc xn xc : Nat} {ra ua xa : Option Addr} {kk EE : Int} {rz xz LP LL : List Int} {i : Nat} {q : Value} {w w' : World} (h : erF b0 rn rc un uc xn xc ra ua xa kk EE rz xz LP LL i q w) (hb : Below w.heap.size w w') : erF b0 rn rc un uc xn xc ra ua xa kk EE rz xz LP LL i q w' := by
  unfold erF at h ⊢
  split
  · obtain ⟨g0, h1, h2⟩ := h; exact ⟨g0, h1, (hb.block _ (Array.getElem?_eq_some_iff.1 h2).1).trans h2⟩
  · exact h
  · exact h
  · obtain ⟨ca, cc, h1, h2, h3⟩ := h; exact ⟨ca, cc, h1, h2.below hb, h3⟩
  · exact h
  · exact h
  · exact h
  · exact h
  · exact h
  · obtain ⟨g0, h1, h2⟩ := h; exact ⟨g0, h1, (hb.block _ (Array.getElem?_eq_some_iff.1 h2).1).trans h2⟩
  · exact h
  · exact h
  · obtain ⟨ca, cc, h1, h2, h3⟩ := h; exact ⟨ca, cc, h1, h2.below hb, h3⟩
  · obtain ⟨p, pn, pc, b, bn, bc, h1, h2, h3⟩ := h; exact ⟨p, pn, pc, b, bn, bc, h1, h2.below hb, h3.below hb⟩
  · obtain ⟨p, pn, pc, b, bn, bc, h1, h2, h3⟩ := h; exact ⟨p, pn, pc, b, bn, bc, h1, h2.below hb, h3.below hb⟩
  · obtain ⟨p, pn, pc, h1, h2⟩ := h; exact ⟨p, pn, pc, h1, h2.below hb⟩
  · obtain ⟨b, bn, bc, h1, h2⟩ := h; exact ⟨b, bn, bc, h1, h2.below hb⟩
  · exact h
  · obtain ⟨p, pn, pc, h1, h2⟩ := h; exact ⟨p, pn, pc, h1, h2.below hb⟩
  · obtain ⟨b, bn, bc, h1, h2⟩ := h; exact ⟨b, bn, bc, h1, h2.below hb⟩
  · exact h
  · trivial

set_option maxHeartbeats 8000000 in
theorem er_region {id : Nat} {ops : Array Oper} {Q : Exit → Act → World → Prop} {a0 : Act} {w0 : World} (b0 rn rc un uc xn xc : Nat) (ra ua xa : Option Addr) (kk EE : Int) (rz xz LP LL : List Int) (S : World → Prop) (mS : ∀ w w', S w → Below w.heap.size w w' → S w') (hlow : lowB ops = true) (hsz : ops.size = 21)
    (o0 : OpIn ops 0 (some 54) (.buildSlice 22 0 #[]) none []) (o1 : OpIn ops 1 (some 55) (.fieldAddr 26 (.tmp 1) 0) none []) (o2 : OpIn ops 2 (some 56) (.load 22 (.tmp 55)) none [1]) (o3 : OpIn ops 3 (some 57) (.call { callee := .builtin .append, args := #[.tmp 54, .tmp 56], argTypes := #[22, 22] }) none [0, 2]) (o4 : OpIn ops 4 (some 58) (.fieldAddr 26 (.tmp 1) 1) none []) (o5 : OpIn ops 5 (some 59) (.load 23 (.tmp 58)) none [4]) (o6 : OpIn ops 6 (some 60) (.call { callee := .builtin .len, args := #[.tmp 59], argTypes := #[23] }) none [5]) (o7 : OpIn ops 7 (some 61) (.fieldAddr 26 (.tmp 1) 4) none []) (o8 : OpIn ops 8 (some 62) (.load 3 (.tmp 61)) none [7]) (o9 : OpIn ops 9 (some 63) (.buildSlice 24 0 #[]) none []) (o10 : OpIn ops 10 (some 64) (.fieldAddr 26 (.tmp 1) 5) none []) (o11 : OpIn ops 11 (some 65) (.load 24 (.tmp 64)) none [10]) (o12 : OpIn ops 12 (some 66) (.call { callee := .builtin .append, args := #[.tmp 63, .tmp 65], argTypes := #[24, 24] }) none [9, 11]) (o13 : OpIn ops 13 (some 67) (.call { callee := .value (.func 12), args := #[.tmp 57, .tmp 60, .tmp 62, .tmp 66], argTypes := #[22, 3, 3, 24] }) none [3, 6, 8, 12]) (o14 : OpIn ops 14 (some 53) (.move (.tmp 67)) none [13]) (o15 : OpIn ops 15 (some 68) (.extract (.tmp 53) 0) none [14]) (o16 : OpIn ops 16 (some 69) (.extract (.tmp 53) 1) none [14]) (o17 : OpIn ops 17 (some 70) (.extract (.tmp 53) 2) none [14]) (o18 : OpIn ops 18 (some 7) (.assign (.tmp 68)) none [15]) (o19 : OpIn ops 19 (some 8) (.assign (.tmp 69)) none [16]) (o20 : OpIn ops 20 (some 9) (.assign (.tmp 70)) none [17])
    (hS : S w0.drew)
    (x1 : ∀ w, (Instr.fieldAt 26 (.pointer (some ⟨b0, 0, none⟩)) 0).run Try.prog w = .ok (.pointer (some ⟨b0, 0, none⟩)) w)
    (x2 : ∀ w, S w → (Instr.loadAt 22 (.pointer (some ⟨b0, 0, none⟩))).run Try.prog w = .ok (.slice ra rn rc) w)
    (x4 : ∀ w, (Instr.fieldAt 26 (.pointer (some ⟨b0, 0, none⟩)) 1).run Try.prog w = .ok (.pointer (some ⟨b0, 1, none⟩)) w)
    (x5 : ∀ w, S w → (Instr.loadAt 23 (.pointer (some ⟨b0, 1, none⟩))).run Try.prog w = .ok (.slice ua un uc) w)
    (x7 : ∀ w, (Instr.fieldAt 26 (.pointer (some ⟨b0, 0, none⟩)) 4).run Try.prog w = .ok (.pointer (some ⟨b0, 4, none⟩)) w)
    (x8 : ∀ w, S w → (Instr.loadAt 3 (.pointer (some ⟨b0, 4, none⟩))).run Try.prog w = .ok (.int .i64 kk) w)
    (x10 : ∀ w, (Instr.fieldAt 26 (.pointer (some ⟨b0, 0, none⟩)) 5).run Try.prog w = .ok (.pointer (some ⟨b0, 5, none⟩)) w)
    (x11 : ∀ w, S w → (Instr.loadAt 24 (.pointer (some ⟨b0, 5, none⟩))).run Try.prog w = .ok (.slice xa xn xc) w)
    (x13 : ∀ w, S w → ∀ p q y z, Reads .i8 w p rn rz → rn ≤ q → Reads .i64 w y xn xz → Calls Try.prog 12 #[.slice p rn q, .int .i64 (un : Nat), .int .i64 kk, .slice y xn z] w fun e w' => ∃ p pn pc b bn bc, e = .returned (.tuple #[.slice p pn pc, .slice b bn bc, .int .i64 EE]) ∧ Reads .i64 w' p pn LP ∧ Reads .i64 w' b bn LL ∧ Below w.heap.size w w' ∧ S w')
    (x3 : ∀ w, S w → Reads .i8 w ra rn rz) (y3 : rn ≤ 17592186044416) (t3 : ∀ o, ops[3]? = some o → o.type = 22)
    (x12 : ∀ w, S w → Reads .i64 w xa xn xz) (y12 : xn ≤ 17592186044416) (t12 : ∀ o, ops[12]? = some o → o.type = 24)
    (u1 : a0.tmps.getD 1 undef = .pointer (some ⟨b0, 0, none⟩))
    (hs : 108 ≤ a0.tmps.size)
    (fin : ∀ a w, a.tmps.size = a0.tmps.size → a.defers = a0.defers → (∀ s, (∀ i, i < 21 → erD i ≠ some s) → a.tmps.getD s undef = a0.tmps.getD s undef) → S w → (∀ i d, i < 21 → erD i = some d → erF b0 rn rc un uc xn xc ra ua xa kk EE rz xz LP LL i (a.tmps.getD d undef) w) → Q .normal a w) : (Code.region id ops true).wp Try.prog Q a0 w0 := by
  have r12 : ∀ args w, (callFunc 12 args).run Try.prog w = .ok (.enter 12 args) w := enters_of Try.func12 (by kernel_rfl) rfl
  refine wp_region_inv2 (by kernel_rfl) hlow (Inv 21 erD a0 (fun _ _ w => S w) (fun _ => erF b0 rn rc un uc xn xc ra ua xa kk EE rz xz LP LL)) (Inv.start hS) ?_ ?_
  · intro l i o a w ho hl hcl hdep hI
    have hi : i < 21 := by rw [← hsz]; exact (Array.getElem?_eq_some_iff.1 ho).1
    have ev : ∀ (s : Nat), a.eval (.tmp s) = a.tmps.getD s undef := fun _ => rfl
    have evf : ∀ f, a.eval (.func f) = .func (.func f) #[] #[] := fun _ => rfl
    have evc : ∀ c : Value, a.eval (.const c) = c := fun _ => rfl
    have inj : ∀ d, erD i = some d → ∀ j d', j < 21 → erD j = some d' → j ≠ i → d' ≠ d := fun d hd j d' hj hd' hne e => hne (erD_inj j hj i hi (by rw [hd', hd, e]) (by rw [hd']; simp))
    have kp : ∀ s, (∀ i, i < 21 → erD i ≠ some s) → a.tmps.getD s undef = a0.tmps.getD s undef := hI.kept
    have hw : S w := hI.world
    have go : ∀ {d : Nat} {v : Value} {w' : World}, erD i = some d → Below w.heap.size w w' → S w' → erF b0 rn rc un uc xn xc ra ua xa kk EE rz xz LP LL i v w' → Inv 21 erD a0 (fun _ _ w => S w) (fun _ => erF b0 rn rc un uc xn xc ra ua xa kk EE rz xz LP LL) (fun j => l j || j == i) (a.put (some d) v) w' := by
      intro d v w' hD hb hS' hF
      exact hI.put hi hD (Nat.lt_of_lt_of_le (erD_lt i hi d hD) hs) (inj d hD) hS' hF (fun j u _ _ _ hf => erF_below hf hb)
    rcases (show i = 0 ∨ i = 1 ∨ i = 2 ∨ i = 3 ∨ i = 4 ∨ i = 5 ∨ i = 6 ∨ i = 7 ∨ i = 8 ∨ i = 9 ∨ i = 10 ∨ i = 11 ∨ i = 12 ∨ i = 13 ∨ i = 14 ∨ i = 15 ∨ i = 16 ∨ i = 17 ∨ i = 18 ∨ i = 19 ∨ i = 20 by omega) with rfl | rfl | rfl | rfl | rfl | rfl | rfl | rfl | rfl | rfl | rfl | rfl | rfl | rfl | rfl | rfl | rfl | rfl | rfl | rfl | rfl
    · obtain ⟨o', e1, e2, e3, e4, e5⟩ := o0
      obtain rfl := Option.some.inj (ho.symm.trans e1)
      have hb1 := below_new (Below.refl w.heap.size w) (.cells #[] 53)
      exact wpOp_value (v := .slice (some ⟨w.heap.size, 0, none⟩) 0 0) (w' := w.alloc (.cells #[] 53)) ho e4 (by simp [execOp, e3, run_build22]) (by rw [e2]; exact go rfl hb1 (mS _ _ hw hb1) ⟨_, rfl, heap_new w _⟩)
    · obtain ⟨o', e1, e2, e3, e4, e5⟩ := o1
      obtain rfl := Option.some.inj (ho.symm.trans e1)
      have dp := dep_of' e5 hdep
      have U1 : a.tmps.getD 1 undef = .pointer (some ⟨b0, 0, none⟩) := (kp 1 (by decide)).trans u1
      exact wpOp_value (v := .pointer (some ⟨b0, 0, none⟩)) (w' := w) ho e4 (by simp [execOp, e3, ev, evc, U1, x1 w]) (by rw [e2]; exact go rfl (Below.refl _ _) hw rfl)
    · obtain ⟨o', e1, e2, e3, e4, e5⟩ := o2
      obtain rfl := Option.some.inj (ho.symm.trans e1)
      have dp := dep_of' e5 hdep
      have V1 : a.tmps.getD 55 undef = .pointer (some ⟨b0, 0, none⟩) := hI.val 1 55 (by decide) rfl (dp 1 (by decide))
      exact wpOp_value (v := .slice ra rn rc) (w' := w) ho e4 (by simp [execOp, e3, ev, evc, V1, x2 w hw]) (by rw [e2]; exact go rfl (Below.refl _ _) hw rfl)
    · obtain ⟨o', e1, e2, e3, e4, e5⟩ := o3
      obtain rfl := Option.some.inj (ho.symm.trans e1)
      have dp := dep_of' e5 hdep
      obtain ⟨g0, V0, f0⟩ : ∃ g0, a.tmps.getD 54 undef = .slice (some ⟨g0, 0, none⟩) 0 0 ∧ w.heap[g0]? = some (.cells #[] 53 (0, 0)) := hI.val 0 54 (by decide) rfl (dp 0 (by decide))
      have V2 : a.tmps.getD 56 undef = .slice ra rn rc := hI.val 2 56 (by decide) rfl (dp 2 (by decide))
      obtain ⟨ca, cc, W2, hap, hrow, hcap, hb1⟩ := run_copy22 f0 (c := rc) (x3 w hw) y3
      exact wpOp_value (v := .slice ca rn cc) (w' := W2) ho e4 (by simp only [execOp, e3, resolve, invoke, builtin, Sem.run_bind, Sem.run_pure, Result.andThen_ok, List.map_toArray, List.map_cons, List.map_nil, ev, V0, V2, t3 _ ho, hap]) (by rw [e2]; exact go rfl hb1 (mS _ _ hw hb1) ⟨_, _, rfl, hrow, hcap⟩)
    · obtain ⟨o', e1, e2, e3, e4, e5⟩ := o4
      obtain rfl := Option.some.inj (ho.symm.trans e1)
      have dp := dep_of' e5 hdep
      have U1 : a.tmps.getD 1 undef = .pointer (some ⟨b0, 0, none⟩) := (kp 1 (by decide)).trans u1
      exact wpOp_value (v := .pointer (some ⟨b0, 1, none⟩)) (w' := w) ho e4 (by simp [execOp, e3, ev, evc, U1, x4 w]) (by rw [e2]; exact go rfl (Below.refl _ _) hw rfl)
    · obtain ⟨o', e1, e2, e3, e4, e5⟩ := o5
      obtain rfl := Option.some.inj (ho.symm.trans e1)
      have dp := dep_of' e5 hdep
      have V4 : a.tmps.getD 58 undef = .pointer (some ⟨b0, 1, none⟩) := hI.val 4 58 (by decide) rfl (dp 4 (by decide))
      exact wpOp_value (v := .slice ua un uc) (w' := w) ho e4 (by simp [execOp, e3, ev, evc, V4, x5 w hw]) (by rw [e2]; exact go rfl (Below.refl _ _) hw rfl)
    · obtain ⟨o', e1, e2, e3, e4, e5⟩ := o6
      obtain rfl := Option.some.inj (ho.symm.trans e1)
      have dp := dep_of' e5 hdep
      have V5 : a.tmps.getD 59 undef = .slice ua un uc := hI.val 5 59 (by decide) rfl (dp 5 (by decide))
      exact wpOp_value (v := .int .i64 (un : Nat)) (w' := w) ho e4 (by simp [execOp, e3, ev, evc, V5, builtin, resolve, invoke, goInt, Builtin.len_, run_underlying Try.underlying23]) (by rw [e2]; exact go rfl (Below.refl _ _) hw rfl)
    · obtain ⟨o', e1, e2, e3, e4, e5⟩ := o7
      obtain rfl := Option.some.inj (ho.symm.trans e1)
      have dp := dep_of' e5 hdep
      have U1 : a.tmps.getD 1 undef = .pointer (some ⟨b0, 0, none⟩) := (kp 1 (by decide)).trans u1
      exact wpOp_value (v := .pointer (some ⟨b0, 4, none⟩)) (w' := w) ho e4 (by simp [execOp, e3, ev, evc, U1, x7 w]) (by rw [e2]; exact go rfl (Below.refl _ _) hw rfl)
    · obtain ⟨o', e1, e2, e3, e4, e5⟩ := o8
      obtain rfl := Option.some.inj (ho.symm.trans e1)
      have dp := dep_of' e5 hdep
      have V7 : a.tmps.getD 61 undef = .pointer (some ⟨b0, 4, none⟩) := hI.val 7 61 (by decide) rfl (dp 7 (by decide))
      exact wpOp_value (v := .int .i64 kk) (w' := w) ho e4 (by simp [execOp, e3, ev, evc, V7, x8 w hw]) (by rw [e2]; exact go rfl (Below.refl _ _) hw rfl)
    · obtain ⟨o', e1, e2, e3, e4, e5⟩ := o9
      obtain rfl := Option.some.inj (ho.symm.trans e1)
      have hb1 := below_new (Below.refl w.heap.size w) (.cells #[] 2)
      exact wpOp_value (v := .slice (some ⟨w.heap.size, 0, none⟩) 0 0) (w' := w.alloc (.cells #[] 2)) ho e4 (by simp [execOp, e3, run_build24]) (by rw [e2]; exact go rfl hb1 (mS _ _ hw hb1) ⟨_, rfl, heap_new w _⟩)
    · obtain ⟨o', e1, e2, e3, e4, e5⟩ := o10
      obtain rfl := Option.some.inj (ho.symm.trans e1)
      have dp := dep_of' e5 hdep
      have U1 : a.tmps.getD 1 undef = .pointer (some ⟨b0, 0, none⟩) := (kp 1 (by decide)).trans u1
      exact wpOp_value (v := .pointer (some ⟨b0, 5, none⟩)) (w' := w) ho e4 (by simp [execOp, e3, ev, evc, U1, x10 w]) (by rw [e2]; exact go rfl (Below.refl _ _) hw rfl)
    · obtain ⟨o', e1, e2, e3, e4, e5⟩ := o11
      obtain rfl := Option.some.inj (ho.symm.trans e1)
      have dp := dep_of' e5 hdep
      have V10 : a.tmps.getD 64 undef = .pointer (some ⟨b0, 5, none⟩) := hI.val 10 64 (by decide) rfl (dp 10 (by decide))
      exact wpOp_value (v := .slice xa xn xc) (w' := w) ho e4 (by simp [execOp, e3, ev, evc, V10, x11 w hw]) (by rw [e2]; exact go rfl (Below.refl _ _) hw rfl)
    · obtain ⟨o', e1, e2, e3, e4, e5⟩ := o12
      obtain rfl := Option.some.inj (ho.symm.trans e1)
      have dp := dep_of' e5 hdep
      obtain ⟨g9, V9, f9⟩ : ∃ g0, a.tmps.getD 63 undef = .slice (some ⟨g0, 0, none⟩) 0 0 ∧ w.heap[g0]? = some (.cells #[] 2 (0, 0)) := hI.val 9 63 (by decide) rfl (dp 9 (by decide))
      have V11 : a.tmps.getD 65 undef = .slice xa xn xc := hI.val 11 65 (by decide) rfl (dp 11 (by decide))
      obtain ⟨ca, cc, W2, hap, hrow, hcap, hb1⟩ := run_copy24 f9 (c := xc) (x12 w hw) y12
      exact wpOp_value (v := .slice ca xn cc) (w' := W2) ho e4 (by simp only [execOp, e3, resolve, invoke, builtin, Sem.run_bind, Sem.run_pure, Result.andThen_ok, List.map_toArray, List.map_cons, List.map_nil, ev, V9, V11, t12 _ ho, hap]) (by rw [e2]; exact go rfl hb1 (mS _ _ hw hb1) ⟨_, _, rfl, hrow, hcap⟩)
    · obtain ⟨o', e1, e2, e3, e4, e5⟩ := o13
      obtain rfl := Option.some.inj (ho.symm.trans e1)
      have dp := dep_of' e5 hdep
      obtain ⟨ca3, cc3, V3, f3, z3⟩ : ∃ ca cc, a.tmps.getD 57 undef = .slice ca rn cc ∧ Reads .i8 w ca rn rz ∧ rn ≤ cc := hI.val 3 57 (by decide) rfl (dp 3 (by decide))
      have V6 : a.tmps.getD 60 undef = .int .i64 (un : Nat) := hI.val 6 60 (by decide) rfl (dp 6 (by decide))
      have V8 : a.tmps.getD 62 undef = .int .i64 kk := hI.val 8 62 (by decide) rfl (dp 8 (by decide))
      obtain ⟨ca12, cc12, V12, f12, z12⟩ : ∃ ca cc, a.tmps.getD 66 undef = .slice ca xn cc ∧ Reads .i64 w ca xn xz ∧ xn ≤ cc := hI.val 12 66 (by decide) rfl (dp 12 (by decide))
      refine wpOp_call (f := 12) (args := #[.slice ca3 rn cc3, .int .i64 (un : Nat), .int .i64 kk, .slice ca12 xn cc12]) ho e4 (by simp [execOp, e3, resolve, invoke, Deferred.ofValue, r12, ev, evf, evc, V3, V6, V8, V12]) ((x13 w hw ca3 cc3 ca12 cc12 f3 z3 f12).mono ?_)
      rintro e W' ⟨p, pn, pc, b, bn, bc, rfl, hp6, hr6, hb6, hs6⟩
      refine ⟨_, rfl, ?_⟩
      rw [e2]
      exact go rfl hb6 hs6 ⟨p, pn, pc, b, bn, bc, rfl, hp6, hr6⟩
    · obtain ⟨o', e1, e2, e3, e4, e5⟩ := o14
      obtain rfl := Option.some.inj (ho.symm.trans e1)
      have dp := dep_of' e5 hdep
      obtain ⟨p13, pn13, pc13, b13, n13, c13, V13, fp13, f13⟩ : ∃ p pn pc b bn bc, a.tmps.getD 67 undef = .tuple #[.slice p pn pc, .slice b bn bc, .int .i64 EE] ∧ Reads .i64 w p pn LP ∧ Reads .i64 w b bn LL := hI.val 13 67 (by decide) rfl (dp 13 (by decide))
      exact wpOp_value (v := .tuple #[.slice p13 pn13 pc13, .slice b13 n13 c13, .int .i64 EE]) (w' := w) ho e4 (by simp [execOp, e3, ev, evc, V13]) (by rw [e2]; exact go rfl (Below.refl _ _) hw ⟨_, _, _, _, _, _, rfl, fp13, f13⟩)
    · obtain ⟨o', e1, e2, e3, e4, e5⟩ := o15
      obtain rfl := Option.some.inj (ho.symm.trans e1)
      have dp := dep_of' e5 hdep
      obtain ⟨p14, pn14, pc14, b14, n14, c14, V14, fp14, f14⟩ : ∃ p pn pc b bn bc, a.tmps.getD 53 undef = .tuple #[.slice p pn pc, .slice b bn bc, .int .i64 EE] ∧ Reads .i64 w p pn LP ∧ Reads .i64 w b bn LL := hI.val 14 53 (by decide) rfl (dp 14 (by decide))
      exact wpOp_value (v := .slice p14 pn14 pc14) (w' := w) ho e4 (by simp [execOp, e3, ev, evc, V14, Instr.extract]) (by rw [e2]; exact go rfl (Below.refl _ _) hw ⟨_, _, _, rfl, fp14⟩)
    · obtain ⟨o', e1, e2, e3, e4, e5⟩ := o16
      obtain rfl := Option.some.inj (ho.symm.trans e1)
      have dp := dep_of' e5 hdep
      obtain ⟨p14, pn14, pc14, b14, n14, c14, V14, fp14, f14⟩ : ∃ p pn pc b bn bc, a.tmps.getD 53 undef = .tuple #[.slice p pn pc, .slice b bn bc, .int .i64 EE] ∧ Reads .i64 w p pn LP ∧ Reads .i64 w b bn LL := hI.val 14 53 (by decide) rfl (dp 14 (by decide))
      exact wpOp_value (v := .slice b14 n14 c14) (w' := w) ho e4 (by simp [execOp, e3, ev, evc, V14, Instr.extract]) (by rw [e2]; exact go rfl (Below.refl _ _) hw ⟨_, _, _, rfl, f14⟩)
    · obtain ⟨o', e1, e2, e3, e4, e5⟩ := o17
      obtain rfl := Option.some.inj (ho.symm.trans e1)
      have dp := dep_of' e5 hdep
      obtain ⟨p14, pn14, pc14, b14, n14, c14, V14, fp14, f14⟩ : ∃ p pn pc b bn bc, a.tmps.getD 53 undef = .tuple #[.slice p pn pc, .slice b bn bc, .int .i64 EE] ∧ Reads .i64 w p pn LP ∧ Reads .i64 w b bn LL := hI.val 14 53 (by decide) rfl (dp 14 (by decide))
      exact wpOp_value (v := .int .i64 EE) (w' := w) ho e4 (by simp [execOp, e3, ev, evc, V14, Instr.extract]) (by rw [e2]; exact go rfl (Below.refl _ _) hw rfl)
    · obtain ⟨o', e1, e2, e3, e4, e5⟩ := o18
      obtain rfl := Option.some.inj (ho.symm.trans e1)
      have dp := dep_of' e5 hdep
      obtain ⟨p15, pn15, pc15, V15, fp15⟩ : ∃ p pn pc, a.tmps.getD 68 undef = .slice p pn pc ∧ Reads .i64 w p pn LP := hI.val 15 68 (by decide) rfl (dp 15 (by decide))
      exact wpOp_value (v := .slice p15 pn15 pc15) (w' := w) ho e4 (by simp [execOp, e3, ev, evc, V15]) (by rw [e2]; exact go rfl (Below.refl _ _) hw ⟨_, _, _, rfl, fp15⟩)
    · obtain ⟨o', e1, e2, e3, e4, e5⟩ := o19
      obtain rfl := Option.some.inj (ho.symm.trans e1)
      have dp := dep_of' e5 hdep
      obtain ⟨b16, n16, c16, V16, f16⟩ : ∃ b bn bc, a.tmps.getD 69 undef = .slice b bn bc ∧ Reads .i64 w b bn LL := hI.val 16 69 (by decide) rfl (dp 16 (by decide))
      exact wpOp_value (v := .slice b16 n16 c16) (w' := w) ho e4 (by simp [execOp, e3, ev, evc, V16]) (by rw [e2]; exact go rfl (Below.refl _ _) hw ⟨_, _, _, rfl, f16⟩)
    · obtain ⟨o', e1, e2, e3, e4, e5⟩ := o20
      obtain rfl := Option.some.inj (ho.symm.trans e1)
      have dp := dep_of' e5 hdep
      have V17 : a.tmps.getD 70 undef = .int .i64 EE := hI.val 17 70 (by decide) rfl (dp 17 (by decide))
      exact wpOp_value (v := .int .i64 EE) (w' := w) ho e4 (by simp [execOp, e3, ev, evc, V17]) (by rw [e2]; exact go rfl (Below.refl _ _) hw rfl)
  · intro l a w hall hI
    have all : ∀ j, j < 21 → l j = true := fun j hj => hall j (by rw [hsz]; exact hj)
    exact fin a w hI.size hI.defers hI.kept hI.world (fun i d hi hD => hI.val i d hi hD (all i hi))
def efD (i : Nat) : Option Nat := match i with | 0 => some 59 | 1 => some 60 | 2 => some 61 | 3 => some 62 | 4 => some 63 | 5 => some 64 | 6 => some 65 | 7 => some 66 | 8 => some 67 | 9 => some 68 | 10 => some 69 | 11 => some 70 | 12 => some 71 | 13 => some 72 | 14 => some 73 | 15 => some 58 | 16 => some 74 | 17 => some 75 | 18 => some 8 | 19 => some 9 | _ => none
theorem efD_inj : ∀ i, i < 20 → ∀ j, j < 20 → efD i = efD j → efD i ≠ none → i = j := by decide
theorem efD_lt : ∀ i, i < 20 → ∀ d, efD i = some d → d < 84 := by
  intro i hi d h
  have : ∀ i, i < 20 → (efD i).all (fun d => decide (d < 84)) = true := by decide
  have := this i hi
  rw [h] at this
  simpa using this
def efF (b0 n c1 c2 p un uc dn dc m xc : Nat) (x y : Addr) (ua da xa : Option Addr) (hh EE : Int) (LL : List Int) (i : Nat) (q : Value) (w : World) : Prop := match i with
  | 0 => q = .pointer (some ⟨b0, 1, none⟩)
  | 1 => q = .slice (some x) n c1
  | 2 => q = .int .i64 p
  | 3 => q = .pointer (some (x.add p))
  | 4 => q = .slice ua un uc
  | 5 => q = .pointer (some ⟨b0, 2, none⟩)
  | 6 => q = .slice (some y) n c2
  | 7 => q = .int .i64 p
  | 8 => q = .pointer (some (y.add p))
  | 9 => q = .slice da dn dc
  | 10 => q = .pointer (some ⟨b0, 3, none⟩)
  | 11 => q = .int .i64 hh
  | 12 => q = .pointer (some ⟨b0, 5, none⟩)
  | 13 => q = .slice xa m xc
  | 14 => ∃ b bn bc, q = .tuple #[.slice b bn bc, .int .i64 EE] ∧ Reads .i64 w b bn LL
  | 15 => ∃ b bn bc, q = .tuple #[.slice b bn bc, .int .i64 EE] ∧ Reads .i64 w b bn LL
  | 16 => ∃ b bn bc, q = .slice b bn bc ∧ Reads .i64 w b bn LL
  | 17 => q = .int .i64 EE
  | 18 => ∃ b bn bc, q = .slice b bn bc ∧ Reads .i64 w b bn LL
  | 19 => q = .int .i64 EE
  | _ => True
theorem efF_below {b0 n c1 c2 p un uc dn dc m xc : Nat} {x y : Addr} {ua da xa : Option Addr} {hh EE : Int} {LL : List Int} {i : Nat} {q : Value} {w w' : World} (h : efF b0 n c1 c2 p un uc dn dc m xc x y ua da xa hh EE LL i q w) (hb : Below w.heap.size w w') : efF b0 n c1 c2 p un uc dn dc m xc x y ua da xa hh EE LL i q w' := by
  unfold efF at h ⊢
  split
  · exact h
  · exact h
  · exact h
  · exact h
  · exact h
  · exact h
  · exact h
  · exact h
  · exact h
  · exact h
  · exact h
  · exact h
  · exact h
  · exact h
  · obtain ⟨b, bn, bc, h1, h2⟩ := h; exact ⟨b, bn, bc, h1, h2.below hb⟩
  · obtain ⟨b, bn, bc, h1, h2⟩ := h; exact ⟨b, bn, bc, h1, h2.below hb⟩
  · obtain ⟨b, bn, bc, h1, h2⟩ := h; exact ⟨b, bn, bc, h1, h2.below hb⟩
  · exact h
  · obtain ⟨b, bn, bc, h1, h2⟩ := h; exact ⟨b, bn, bc, h1, h2.below hb⟩
  · exact h
  · trivial

set_option maxHeartbeats 8000000 in
theorem ef_region {id : Nat} {ops : Array Oper} {Q : Exit → Act → World → Prop} {a0 : Act} {w0 : World} (b0 n c1 c2 p un uc dn dc m xc : Nat) (x y : Addr) (ua da xa : Option Addr) (hh EE : Int) (LL : List Int) (S : World → Prop) (mS : ∀ w w', S w → Below w.heap.size w w' → S w') (hlow : lowB ops = true) (hsz : ops.size = 20)
    (o0 : OpIn ops 0 (some 59) (.fieldAddr 26 (.tmp 1) 1) none []) (o1 : OpIn ops 1 (some 60) (.load 23 (.tmp 59)) none [0]) (o2 : OpIn ops 2 (some 61) (.move (.tmp 5)) none []) (o3 : OpIn ops 3 (some 62) (.indexAddr 23 (.tmp 60) (.tmp 61)) none [1, 2]) (o4 : OpIn ops 4 (some 63) (.load 22 (.tmp 62)) none [3]) (o5 : OpIn ops 5 (some 64) (.fieldAddr 26 (.tmp 1) 2) none []) (o6 : OpIn ops 6 (some 65) (.load 23 (.tmp 64)) none [5]) (o7 : OpIn ops 7 (some 66) (.move (.tmp 5)) none []) (o8 : OpIn ops 8 (some 67) (.indexAddr 23 (.tmp 65) (.tmp 66)) none [6, 7]) (o9 : OpIn ops 9 (some 68) (.load 22 (.tmp 67)) none [8]) (o10 : OpIn ops 10 (some 69) (.fieldAddr 26 (.tmp 1) 3) none []) (o11 : OpIn ops 11 (some 70) (.load 3 (.tmp 69)) none [10]) (o12 : OpIn ops 12 (some 71) (.fieldAddr 26 (.tmp 1) 5) none []) (o13 : OpIn ops 13 (some 72) (.load 24 (.tmp 71)) none [12]) (o14 : OpIn ops 14 (some 73) (.call { callee := .value (.func 16), args := #[.tmp 63, .tmp 68, .tmp 70, .tmp 72], argTypes := #[22, 22, 3, 24] }) none [4, 9, 11, 13]) (o15 : OpIn ops 15 (some 58) (.move (.tmp 73)) none [14]) (o16 : OpIn ops 16 (some 74) (.extract (.tmp 58) 0) none [15]) (o17 : OpIn ops 17 (some 75) (.extract (.tmp 58) 1) none [15]) (o18 : OpIn ops 18 (some 8) (.assign (.tmp 74)) none [16]) (o19 : OpIn ops 19 (some 9) (.assign (.tmp 75)) none [17])
    (hS : S w0.drew)
    (x0 : ∀ w, (Instr.fieldAt 26 (.pointer (some ⟨b0, 0, none⟩)) 1).run Try.prog w = .ok (.pointer (some ⟨b0, 1, none⟩)) w)
    (x1 : ∀ w, S w → (Instr.loadAt 23 (.pointer (some ⟨b0, 1, none⟩))).run Try.prog w = .ok (.slice (some x) n c1) w)
    (x3 : ∀ w, (Instr.indexAt 23 (.slice (some x) n c1) (.int .i64 p)).run Try.prog w = .ok (.pointer (some (x.add p))) w)
    (x4 : ∀ w, S w → (Instr.loadAt 22 (.pointer (some (x.add p)))).run Try.prog w = .ok (.slice ua un uc) w)
    (x5 : ∀ w, (Instr.fieldAt 26 (.pointer (some ⟨b0, 0, none⟩)) 2).run Try.prog w = .ok (.pointer (some ⟨b0, 2, none⟩)) w)
    (x6 : ∀ w, S w → (Instr.loadAt 23 (.pointer (some ⟨b0, 2, none⟩))).run Try.prog w = .ok (.slice (some y) n c2) w)
    (x8 : ∀ w, (Instr.indexAt 23 (.slice (some y) n c2) (.int .i64 p)).run Try.prog w = .ok (.pointer (some (y.add p))) w)
    (x9 : ∀ w, S w → (Instr.loadAt 22 (.pointer (some (y.add p)))).run Try.prog w = .ok (.slice da dn dc) w)
    (x10 : ∀ w, (Instr.fieldAt 26 (.pointer (some ⟨b0, 0, none⟩)) 3).run Try.prog w = .ok (.pointer (some ⟨b0, 3, none⟩)) w)
    (x11 : ∀ w, S w → (Instr.loadAt 3 (.pointer (some ⟨b0, 3, none⟩))).run Try.prog w = .ok (.int .i64 hh) w)
    (x12 : ∀ w, (Instr.fieldAt 26 (.pointer (some ⟨b0, 0, none⟩)) 5).run Try.prog w = .ok (.pointer (some ⟨b0, 5, none⟩)) w)
    (x13 : ∀ w, S w → (Instr.loadAt 24 (.pointer (some ⟨b0, 5, none⟩))).run Try.prog w = .ok (.slice xa m xc) w)
    (x14 : ∀ w, S w → Calls Try.prog 16 #[.slice ua un uc, .slice da dn dc, .int .i64 hh, .slice xa m xc] w fun e w' => ∃ b bn bc, e = .returned (.tuple #[.slice b bn bc, .int .i64 EE]) ∧ Reads .i64 w' b bn LL ∧ Below w.heap.size w w' ∧ S w')
    (u1 : a0.tmps.getD 1 undef = .pointer (some ⟨b0, 0, none⟩))
    (u5 : a0.tmps.getD 5 undef = .int .i64 p)
    (hs : 84 ≤ a0.tmps.size)
    (fin : ∀ a w, a.tmps.size = a0.tmps.size → a.defers = a0.defers → (∀ s, (∀ i, i < 20 → efD i ≠ some s) → a.tmps.getD s undef = a0.tmps.getD s undef) → S w → (∀ i d, i < 20 → efD i = some d → efF b0 n c1 c2 p un uc dn dc m xc x y ua da xa hh EE LL i (a.tmps.getD d undef) w) → Q .normal a w) : (Code.region id ops true).wp Try.prog Q a0 w0 := by
  have r16 : ∀ args w, (callFunc 16 args).run Try.prog w = .ok (.enter 16 args) w := enters_of Try.func16 (by kernel_rfl) rfl
  refine wp_region_inv2 (by kernel_rfl) hlow (Inv 20 efD a0 (fun _ _ w => S w) (fun _ => efF b0 n c1 c2 p un uc dn dc m xc x y ua da xa hh EE LL)) (Inv.start hS) ?_ ?_
  · intro l i o a w ho hl hcl hdep hI
    have hi : i < 20 := by rw [← hsz]; exact (Array.getElem?_eq_some_iff.1 ho).1
    have ev : ∀ (s : Nat), a.eval (.tmp s) = a.tmps.getD s undef := fun _ => rfl
    have evf : ∀ f, a.eval (.func f) = .func (.func f) #[] #[] := fun _ => rfl
    have evc : ∀ c : Value, a.eval (.const c) = c := fun _ => rfl
    have inj : ∀ d, efD i = some d → ∀ j d', j < 20 → efD j = some d' → j ≠ i → d' ≠ d := fun d hd j d' hj hd' hne e => hne (efD_inj j hj i hi (by rw [hd', hd, e]) (by rw [hd']; simp))
    have kp : ∀ s, (∀ i, i < 20 → efD i ≠ some s) → a.tmps.getD s undef = a0.tmps.getD s undef := hI.kept
    have hw : S w := hI.world
    have go : ∀ {d : Nat} {v : Value} {w' : World}, efD i = some d → Below w.heap.size w w' → S w' → efF b0 n c1 c2 p un uc dn dc m xc x y ua da xa hh EE LL i v w' → Inv 20 efD a0 (fun _ _ w => S w) (fun _ => efF b0 n c1 c2 p un uc dn dc m xc x y ua da xa hh EE LL) (fun j => l j || j == i) (a.put (some d) v) w' := by
      intro d v w' hD hb hS' hF
      exact hI.put hi hD (Nat.lt_of_lt_of_le (efD_lt i hi d hD) hs) (inj d hD) hS' hF (fun j u _ _ _ hf => efF_below hf hb)
    rcases (show i = 0 ∨ i = 1 ∨ i = 2 ∨ i = 3 ∨ i = 4 ∨ i = 5 ∨ i = 6 ∨ i = 7 ∨ i = 8 ∨ i = 9 ∨ i = 10 ∨ i = 11 ∨ i = 12 ∨ i = 13 ∨ i = 14 ∨ i = 15 ∨ i = 16 ∨ i = 17 ∨ i = 18 ∨ i = 19 by omega) with rfl | rfl | rfl | rfl | rfl | rfl | rfl | rfl | rfl | rfl | rfl | rfl | rfl | rfl | rfl | rfl | rfl | rfl | rfl | rfl
    · obtain ⟨o', e1, e2, e3, e4, e5⟩ := o0
      obtain rfl := Option.some.inj (ho.symm.trans e1)
      have dp := dep_of' e5 hdep
      have U1 : a.tmps.getD 1 undef = .pointer (some ⟨b0, 0, none⟩) := (kp 1 (by decide)).trans u1
      exact wpOp_value (v := .pointer (some ⟨b0, 1, none⟩)) (w' := w) ho e4 (by simp [execOp, e3, ev, evc, U1, x0 w]) (by rw [e2]; exact go rfl (Below.refl _ _) hw rfl)
    · obtain ⟨o', e1, e2, e3, e4, e5⟩ := o1
      obtain rfl := Option.some.inj (ho.symm.trans e1)
      have dp := dep_of' e5 hdep
      have V0 : a.tmps.getD 59 undef = .pointer (some ⟨b0, 1, none⟩) := hI.val 0 59 (by decide) rfl (dp 0 (by decide))
      exact wpOp_value (v := .slice (some x) n c1) (w' := w) ho e4 (by simp [execOp, e3, ev, evc, V0, x1 w hw]) (by rw [e2]; exact go rfl (Below.refl _ _) hw rfl)
    · obtain ⟨o', e1, e2, e3, e4, e5⟩ := o2
      obtain rfl := Option.some.inj (ho.symm.trans e1)
      have dp := dep_of' e5 hdep
      have U5 : a.tmps.getD 5 undef = .int .i64 p := (kp 5 (by decide)).trans u5
      exact wpOp_value (v := .int .i64 p) (w' := w) ho e4 (by simp [execOp, e3, ev, evc, U5]) (by rw [e2]; exact go rfl (Below.refl _ _) hw rfl)
    · obtain ⟨o', e1, e2, e3, e4, e5⟩ := o3
      obtain rfl := Option.some.inj (ho.symm.trans e1)
      have dp := dep_of' e5 hdep
      have V1 : a.tmps.getD 60 undef = .slice (some x) n c1 := hI.val 1 60 (by decide) rfl (dp 1 (by decide))
      have V2 : a.tmps.getD 61 undef = .int .i64 p := hI.val 2 61 (by decide) rfl (dp 2 (by decide))
      exact wpOp_value (v := .pointer (some (x.add p))) (w' := w) ho e4 (by simp [execOp, e3, ev, evc, V1, V2, x3 w]) (by rw [e2]; exact go rfl (Below.refl _ _) hw rfl)
    · obtain ⟨o', e1, e2, e3, e4, e5⟩ := o4
      obtain rfl := Option.some.inj (ho.symm.trans e1)
      have dp := dep_of' e5 hdep
      have V3 : a.tmps.getD 62 undef = .pointer (some (x.add p)) := hI.val 3 62 (by decide) rfl (dp 3 (by decide))
      exact wpOp_value (v := .slice ua un uc) (w' := w) ho e4 (by simp [execOp, e3, ev, evc, V3, x4 w hw]) (by rw [e2]; exact go rfl (Below.refl _ _) hw rfl)
    · obtain ⟨o', e1, e2, e3, e4, e5⟩ := o5
      obtain rfl := Option.some.inj (ho.symm.trans e1)
      have dp := dep_of' e5 hdep
      have U1 : a.tmps.getD 1 undef = .pointer (some ⟨b0, 0, none⟩) := (kp 1 (by decide)).trans u1
      exact wpOp_value (v := .pointer (some ⟨b0, 2, none⟩)) (w' := w) ho e4 (by simp [execOp, e3, ev, evc, U1, x5 w]) (by rw [e2]; exact go rfl (Below.refl _ _) hw rfl)
    · obtain ⟨o', e1, e2, e3, e4, e5⟩ := o6
      obtain rfl := Option.some.inj (ho.symm.trans e1)
      have dp := dep_of' e5 hdep
      have V5 : a.tmps.getD 64 undef = .pointer (some ⟨b0, 2, none⟩) := hI.val 5 64 (by decide) rfl (dp 5 (by decide))
      exact wpOp_value (v := .slice (some y) n c2) (w' := w) ho e4 (by simp [execOp, e3, ev, evc, V5, x6 w hw]) (by rw [e2]; exact go rfl (Below.refl _ _) hw rfl)
    · obtain ⟨o', e1, e2, e3, e4, e5⟩ := o7
      obtain rfl := Option.some.inj (ho.symm.trans e1)
      have dp := dep_of' e5 hdep
      have U5 : a.tmps.getD 5 undef = .int .i64 p := (kp 5 (by decide)).trans u5
      exact wpOp_value (v := .int .i64 p) (w' := w) ho e4 (by simp [execOp, e3, ev, evc, U5]) (by rw [e2]; exact go rfl (Below.refl _ _) hw rfl)
    · obtain ⟨o', e1, e2, e3, e4, e5⟩ := o8
      obtain rfl := Option.some.inj (ho.symm.trans e1)
      have dp := dep_of' e5 hdep
      have V6 : a.tmps.getD 65 undef = .slice (some y) n c2 := hI.val 6 65 (by decide) rfl (dp 6 (by decide))
      have V7 : a.tmps.getD 66 undef = .int .i64 p := hI.val 7 66 (by decide) rfl (dp 7 (by decide))
      exact wpOp_value (v := .pointer (some (y.add p))) (w' := w) ho e4 (by simp [execOp, e3, ev, evc, V6, V7, x8 w]) (by rw [e2]; exact go rfl (Below.refl _ _) hw rfl)
    · obtain ⟨o', e1, e2, e3, e4, e5⟩ := o9
      obtain rfl := Option.some.inj (ho.symm.trans e1)
      have dp := dep_of' e5 hdep
      have V8 : a.tmps.getD 67 undef = .pointer (some (y.add p)) := hI.val 8 67 (by decide) rfl (dp 8 (by decide))
      exact wpOp_value (v := .slice da dn dc) (w' := w) ho e4 (by simp [execOp, e3, ev, evc, V8, x9 w hw]) (by rw [e2]; exact go rfl (Below.refl _ _) hw rfl)
    · obtain ⟨o', e1, e2, e3, e4, e5⟩ := o10
      obtain rfl := Option.some.inj (ho.symm.trans e1)
      have dp := dep_of' e5 hdep
      have U1 : a.tmps.getD 1 undef = .pointer (some ⟨b0, 0, none⟩) := (kp 1 (by decide)).trans u1
      exact wpOp_value (v := .pointer (some ⟨b0, 3, none⟩)) (w' := w) ho e4 (by simp [execOp, e3, ev, evc, U1, x10 w]) (by rw [e2]; exact go rfl (Below.refl _ _) hw rfl)
    · obtain ⟨o', e1, e2, e3, e4, e5⟩ := o11
      obtain rfl := Option.some.inj (ho.symm.trans e1)
      have dp := dep_of' e5 hdep
      have V10 : a.tmps.getD 69 undef = .pointer (some ⟨b0, 3, none⟩) := hI.val 10 69 (by decide) rfl (dp 10 (by decide))
      exact wpOp_value (v := .int .i64 hh) (w' := w) ho e4 (by simp [execOp, e3, ev, evc, V10, x11 w hw]) (by rw [e2]; exact go rfl (Below.refl _ _) hw rfl)
    · obtain ⟨o', e1, e2, e3, e4, e5⟩ := o12
      obtain rfl := Option.some.inj (ho.symm.trans e1)
      have dp := dep_of' e5 hdep
      have U1 : a.tmps.getD 1 undef = .pointer (some ⟨b0, 0, none⟩) := (kp 1 (by decide)).trans u1
      exact wpOp_value (v := .pointer (some ⟨b0, 5, none⟩)) (w' := w) ho e4 (by simp [execOp, e3, ev, evc, U1, x12 w]) (by rw [e2]; exact go rfl (Below.refl _ _) hw rfl)
    · obtain ⟨o', e1, e2, e3, e4, e5⟩ := o13
      obtain rfl := Option.some.inj (ho.symm.trans e1)
      have dp := dep_of' e5 hdep
      have V12 : a.tmps.getD 71 undef = .pointer (some ⟨b0, 5, none⟩) := hI.val 12 71 (by decide) rfl (dp 12 (by decide))
      exact wpOp_value (v := .slice xa m xc) (w' := w) ho e4 (by simp [execOp, e3, ev, evc, V12, x13 w hw]) (by rw [e2]; exact go rfl (Below.refl _ _) hw rfl)
    · obtain ⟨o', e1, e2, e3, e4, e5⟩ := o14
      obtain rfl := Option.some.inj (ho.symm.trans e1)
      have dp := dep_of' e5 hdep
      have V4 : a.tmps.getD 63 undef = .slice ua un uc := hI.val 4 63 (by decide) rfl (dp 4 (by decide))
      have V9 : a.tmps.getD 68 undef = .slice da dn dc := hI.val 9 68 (by decide) rfl (dp 9 (by decide))
      have V11 : a.tmps.getD 70 undef = .int .i64 hh := hI.val 11 70 (by decide) rfl (dp 11 (by decide))
      have V13 : a.tmps.getD 72 undef = .slice xa m xc := hI.val 13 72 (by decide) rfl (dp 13 (by decide))
      refine wpOp_call (f := 16) (args := #[.slice ua un uc, .slice da dn dc, .int .i64 hh, .slice xa m xc]) ho e4 (by simp [execOp, e3, resolve, invoke, Deferred.ofValue, r16, ev, evf, evc, V4, V9, V11, V13]) ((x14 w hw).mono ?_)
      rintro e W' ⟨b, bn, bc, rfl, hr6, hb6, hs6⟩
      refine ⟨_, rfl, ?_⟩
      rw [e2]
      exact go rfl hb6 hs6 ⟨b, bn, bc, rfl, hr6⟩
    · obtain ⟨o', e1, e2, e3, e4, e5⟩ := o15
      obtain rfl := Option.some.inj (ho.symm.trans e1)
      have dp := dep_of' e5 hdep
      obtain ⟨b14, n14, c14, V14, f14⟩ : ∃ b bn bc, a.tmps.getD 73 undef = .tuple #[.slice b bn bc, .int .i64 EE] ∧ Reads .i64 w b bn LL := hI.val 14 73 (by decide) rfl (dp 14 (by decide))
      exact wpOp_value (v := .tuple #[.slice b14 n14 c14, .int .i64 EE]) (w' := w) ho e4 (by simp [execOp, e3, ev, evc, V14]) (by rw [e2]; exact go rfl (Below.refl _ _) hw ⟨_, _, _, rfl, f14⟩)
    · obtain ⟨o', e1, e2, e3, e4, e5⟩ := o16
      obtain rfl := Option.some.inj (ho.symm.trans e1)
      have dp := dep_of' e5 hdep
      obtain ⟨b15, n15, c15, V15, f15⟩ : ∃ b bn bc, a.tmps.getD 58 undef = .tuple #[.slice b bn bc, .int .i64 EE] ∧ Reads .i64 w b bn LL := hI.val 15 58 (by decide) rfl (dp 15 (by decide))
      exact wpOp_value (v := .slice b15 n15 c15) (w' := w) ho e4 (by simp [execOp, e3, ev, evc, V15, Instr.extract]) (by rw [e2]; exact go rfl (Below.refl _ _) hw ⟨_, _, _, rfl, f15⟩)
    · obtain ⟨o', e1, e2, e3, e4, e5⟩ := o17
      obtain rfl := Option.some.inj (ho.symm.trans e1)
      have dp := dep_of' e5 hdep
      obtain ⟨b15, n15, c15, V15, f15⟩ : ∃ b bn bc, a.tmps.getD 58 undef = .tuple #[.slice b bn bc, .int .i64 EE] ∧ Reads .i64 w b bn LL := hI.val 15 58 (by decide) rfl (dp 15 (by decide))
      exact wpOp_value (v := .int .i64 EE) (w' := w) ho e4 (by simp [execOp, e3, ev, evc, V15, Instr.extract]) (by rw [e2]; exact go rfl (Below.refl _ _) hw rfl)
    · obtain ⟨o', e1, e2, e3, e4, e5⟩ := o18
      obtain rfl := Option.some.inj (ho.symm.trans e1)
      have dp := dep_of' e5 hdep
      obtain ⟨b16, n16, c16, V16, f16⟩ : ∃ b bn bc, a.tmps.getD 74 undef = .slice b bn bc ∧ Reads .i64 w b bn LL := hI.val 16 74 (by decide) rfl (dp 16 (by decide))
      exact wpOp_value (v := .slice b16 n16 c16) (w' := w) ho e4 (by simp [execOp, e3, ev, evc, V16]) (by rw [e2]; exact go rfl (Below.refl _ _) hw ⟨_, _, _, rfl, f16⟩)
    · obtain ⟨o', e1, e2, e3, e4, e5⟩ := o19
      obtain rfl := Option.some.inj (ho.symm.trans e1)
      have dp := dep_of' e5 hdep
      have V17 : a.tmps.getD 75 undef = .int .i64 EE := hI.val 17 75 (by decide) rfl (dp 17 (by decide))
      exact wpOp_value (v := .int .i64 EE) (w' := w) ho e4 (by simp [execOp, e3, ev, evc, V17]) (by rw [e2]; exact go rfl (Below.refl _ _) hw rfl)
  · intro l a w hall hI
    have all : ∀ j, j < 20 → l j = true := fun j hj => hall j (by rw [hsz]; exact hj)
    exact fin a w hI.size hI.defers hI.kept hI.world (fun i d hi hD => hI.val i d hi hD (all i hi))

end Go.Proofs.Ytlpmndlefbghoaa
