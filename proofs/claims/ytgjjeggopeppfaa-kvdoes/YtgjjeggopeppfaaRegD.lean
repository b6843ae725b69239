/- Texts put together: RegDo, RegDp. -/
import Derived.Test.YtgjjeggopeppfaaRows
import Derived.Test.YtgjjeggopeppfaaPages
import Derived.Test.YtgjjeggopeppfaaBasis
import Derived.Test.YtgjjeggopeppfaaLeast
import Derived.Test.YtgjjeggopeppfaaSeqP
import Derived.Test.YtgjjeggopeppfaaRooms
import Derived.Test.YtgjjeggopeppfaaInv
import Derived.Test.YtgjjeggopeppfaaCopyE
import Derived.Test.YtgjjeggopeppfaaDocAt
import Derived.Test.YtgjjeggopeppfaaDocKeep
import Derived.Test.YtgjjeggopeppfaaRegPg
import Derived.Test.YtgjjeggopeppfaaRegAB
import Derived.WalkKit
import Derived.ProofKit
import Derived.OpenShut
import Derived.Below
import Derived.WalkLawsBesides
import Derived.Deep.QuietTactic
import Derived.BigQuiet
import Derived.Orders
import Derived.OwnWalk
import Derived.Maps.AppendAt
import Derived.Laws.Append
namespace Go.Proofs.Ytgjjeggopeppfaa

/- KvDoes' region that appends to both. -/
section
open Go.ChangeShapes Go.WideShapes Go.ChangeAt Go.RowKit
set_option linter.unusedVariables false
set_option linter.unusedSimpArgs false

/-- a row is copied into a new one: an empty literal has no room -/
theorem run_copyF {w : World} {g0 : Nat} (h0 : w.heap[g0]? = some (.cells #[] 2 (0, 0))) {B : Nat} (hB : B ≤ g0) (hB' : B ≤ w.heap.size) {a : Option Addr} {n c : Nat} {zs : List Int} (hs : Reads .i64 w a n zs) (hn : n * 8 ≤ 140737488355328) :
    ∃ ca cc W2, (Builtin.append_ #[39, 39] 39 #[.slice (some ⟨g0, 0, none⟩) 0 0, .slice a n c]).run Try.prog w = .ok (.slice ca n cc) W2 ∧ RowJ B W2 ca n cc zs ∧ (∃ y, ca = some y) ∧ Below w.heap.size w W2 := by
  obtain ⟨i0, hi, hz0, hz1, hz2⟩ := info_parts info2
  have hlen := hs.len
  by_cases hn0 : n = 0
  · subst hn0
    obtain rfl : zs = [] := List.eq_nil_of_length_eq_zero hlen
    refine ⟨some ⟨g0, 0, none⟩, 0, w, ?_, ⟨rfl, ⟨rfl, .inr ⟨g0, 0, #[], rfl, hB, h0, Nat.le_refl _, by decide, rfl, rfl⟩⟩, by simp⟩, ⟨_, rfl⟩, Below.refl _ _⟩
    cases a with
    | none => simp [Builtin.append_, run_underlying Try.underlying39, sizeOf, typeInfo, hi, Builtin.lenOf, Builtin.firstCells, storeCells]
    | some x => simp [Builtin.append_, run_underlying Try.underlying39, sizeOf, typeInfo, hi, Builtin.lenOf, Builtin.firstCells, storeCells, loadCells, loadCellsFrom]
  · obtain ⟨x, rfl⟩ := hs.some_ (by omega)
    have hnews : ∀ j u, (zs.map (Value.int .i64))[j]? = some u → w.cell? (x.add j) = some u := fun j u hj => by
      have hjm : j < n := by have := (List.getElem?_eq_some_iff.1 hj).1; rw [List.length_map] at this; omega
      rw [hs.cell x rfl j hjm, ← hj, ints_at zs j (by omega)]
    have hr := run_append_grow (P := Try.prog) w 39 39 2 i0 _ Try.underlying39 hi hz0 ⟨g0, 0, none⟩ 0 0 [] (by simp) (by simp) x n c (zs.map (Value.int .i64)) (by rw [hz1]; simpa using hlen) hnews (by omega) (by omega) (by rw [hz2]; exact growslice_fits (by omega) (by omega))
    simp only [Nat.zero_add] at hr
    have hge := grownCap_ge w n 0 2
    have hcm := grownCap_le_maxLen w n 0 2 (by unfold maxLen; omega)
    refine ⟨_, _, _, hr, ⟨hlen, ⟨by simp [hlen], .inr ⟨w.heap.size, _, _, rfl, hB', heap_alloc_new w.drew _, hge, hcm, ?_, ?_⟩⟩, hs.wf_mem⟩, ⟨_, rfl⟩, ?_⟩
    · simp [hlen, size_zeroCells]
      rw [show (Value.cells (.int .i64 0)).size = 1 from rfl]
      omega
    · simp [hlen]
    · have := below_new (Below.refl w.drew.heap.size w.drew) (.cells (([] : List Value).toArray ++ (zs.map (Value.int .i64)).toArray ++ Builtin.zeroCells (Value.cells (.int .i64 0)) (grownCap w n 0 2 - n)) 2)
      exact ⟨this.os, this.tape, this.output, this.size, this.block⟩

theorem run_build39 (w : World) : (Instr.buildSlice 39 0 #[]).run Try.prog w = .ok (.slice (some ⟨w.heap.size, 0, none⟩) 0 0) (w.alloc (.cells #[] 2)) := by go_simp
def apD (i : Nat) : Option Nat := match i with | 0 => some 116 | 1 => some 117 | 2 => some 118 | 3 => some 119 | 4 => some 120 | 5 => some 121 | 6 => some 122 | 7 => some 123 | 8 => some 124 | 9 => some 125 | 10 => some 126 | 11 => some 127 | 12 => some 128 | 13 => some 129 | 14 => some 130 | _ => none
theorem apD_inj : ∀ i, i < 15 → ∀ j, j < 15 → apD i = apD j → apD i ≠ none → i = j := by decide
theorem apD_lt : ∀ i, i < 15 → ∀ d, apD i = some d → d < 131 := by
  intro i hi d h
  have : ∀ i, i < 15 → (apD i).all (fun d => decide (d < 131)) = true := by decide
  have := this i hi
  rw [h] at this
  simpa using this
def apF (xk yk n c k lk ck lk2 ck2 w0s : Nat) (xa xb : Addr) (E : Int) (sa : Option Addr) (zs : List Int) (Mid Fin : World → Prop) (l : Nat → Bool) (i : Nat) (q : Value) (w : World) : Prop := match i with
  | 0 => q = .slice (some xa) lk ck
  | 1 => q = .int .i64 (k : Nat)
  | 2 => q = .pointer (some (xa.add k))
  | 3 => q = .pointer (some ⟨xk, 0, none⟩)
  | 4 => ∃ g0, q = .slice (some ⟨g0, 0, none⟩) 0 0 ∧ (l 7 = false → w0s ≤ g0 ∧ w.heap[g0]? = some (.cells #[] 2 (0, 0)))
  | 5 => q = .slice sa n c
  | 6 => ∃ ca cc, q = .slice ca n cc ∧ (l 7 = false → RowJ w0s w ca n cc zs)
  | 7 => q = .int .i64 E
  | 8 => q = .slice (some xb) lk2 ck2
  | 9 => q = .int .i64 (k : Nat)
  | 10 => q = .pointer (some (xb.add k))
  | 11 => q = .pointer (some ⟨yk, 0, none⟩)
  | 12 => q = .slice sa n c
  | 13 => q = .int .i64 E
  | 14 => q = .bool false
  | _ => True
def apS (xk yk n c k lk ck lk2 ck2 w0s : Nat) (xa xb : Addr) (E : Int) (sa : Option Addr) (zs : List Int) (Mid Fin : World → Prop) (w0 : World) (l : Nat → Bool) (w : World) : Prop := (l 7 = false → Below w0.heap.size w0 w) ∧ (l 7 = true → l 13 = false → Mid w) ∧ (l 13 = true → Fin w)
theorem apF_below {xk yk n c k lk ck lk2 ck2 w0s : Nat} {xa xb : Addr} {E : Int} {sa : Option Addr} {zs : List Int} {Mid Fin : World → Prop} {l l' : Nat → Bool} {i : Nat} {q : Value} {w w' : World} (h : apF xk yk n c k lk ck lk2 ck2 w0s xa xb E sa zs Mid Fin l i q w) (hb : Below w.heap.size w w') (m1 : l' 7 = l 7) : apF xk yk n c k lk ck lk2 ck2 w0s xa xb E sa zs Mid Fin l' i q w' := by
  unfold apF at h ⊢
  split
  · exact h
  · exact h
  · exact h
  · exact h
  · obtain ⟨g0, hq, hh⟩ := h; exact ⟨g0, hq, fun e => ⟨(hh (by rw [← m1]; exact e)).1, (hb.block _ (Array.getElem?_eq_some_iff.1 (hh (by rw [← m1]; exact e)).2).1).trans (hh (by rw [← m1]; exact e)).2⟩⟩
  · exact h
  · obtain ⟨ca, cc, hq, hh⟩ := h; exact ⟨ca, cc, hq, fun e => (hh (by rw [← m1]; exact e)).below hb⟩
  · exact h
  · exact h
  · exact h
  · exact h
  · exact h
  · exact h
  · exact h
  · exact h
  · trivial
theorem apF_late {xk yk n c k lk ck lk2 ck2 w0s : Nat} {xa xb : Addr} {E : Int} {sa : Option Addr} {zs : List Int} {Mid Fin : World → Prop} {l l' : Nat → Bool} {i : Nat} {q : Value} {w w' : World} (h : apF xk yk n c k lk ck lk2 ck2 w0s xa xb E sa zs Mid Fin l i q w) (m1 : l' 7 = true) : apF xk yk n c k lk ck lk2 ck2 w0s xa xb E sa zs Mid Fin l' i q w' := by
  unfold apF at h ⊢
  split
  · exact h
  · exact h
  · exact h
  · exact h
  · obtain ⟨g0, hq, _⟩ := h; exact ⟨g0, hq, fun e => by rw [m1] at e; cases e⟩
  · exact h
  · obtain ⟨ca, cc, hq, _⟩ := h; exact ⟨ca, cc, hq, fun e => by rw [m1] at e; cases e⟩
  · exact h
  · exact h
  · exact h
  · exact h
  · exact h
  · exact h
  · exact h
  · exact h
  · trivial

set_option maxHeartbeats 8000000 in
theorem ap_region {id : Nat} {ops : Array Oper} {Q : Exit → Act → World → Prop} {a0 : Act} {w0 : World} (xk yk n c k lk ck lk2 ck2 w0s : Nat) (xa xb : Addr) (E : Int) (sa : Option Addr) (zs : List Int) (Mid Fin : World → Prop) (hlow : lowB ops = true) (hsz : ops.size = 15)
    (o0 : OpIn ops 0 (some 116) (.move (.tmp 16)) none []) (o1 : OpIn ops 1 (some 117) (.move (.tmp 20)) none []) (o2 : OpIn ops 2 (some 118) (.indexAddr 37 (.tmp 116) (.tmp 117)) none [0, 1]) (o3 : OpIn ops 3 (some 119) (.load 31 (.tmp 118)) none [2]) (o4 : OpIn ops 4 (some 120) (.buildSlice 39 0 #[]) none []) (o5 : OpIn ops 5 (some 121) (.move (.tmp 21)) none []) (o6 : OpIn ops 6 (some 122) (.call { callee := .builtin .append, args := #[.tmp 120, .tmp 121], argTypes := #[39, 39] }) none [4, 5]) (o7 : OpIn ops 7 (some 123) (.call { callee := .value (.func 12), args := #[.tmp 119, .tmp 122], argTypes := #[31, 39] }) none [3, 6]) (o8 : OpIn ops 8 (some 124) (.move (.tmp 17)) none []) (o9 : OpIn ops 9 (some 125) (.move (.tmp 20)) none []) (o10 : OpIn ops 10 (some 126) (.indexAddr 38 (.tmp 124) (.tmp 125)) none [8, 9]) (o11 : OpIn ops 11 (some 127) (.load 34 (.tmp 126)) none [10]) (o12 : OpIn ops 12 (some 128) (.move (.tmp 21)) none []) (o13 : OpIn ops 13 (some 129) (.call { callee := .value (.func 13), args := #[.tmp 127, .tmp 128], argTypes := #[34, 39] }) none [7, 11, 12]) (o14 : OpIn ops 14 (some 130) (.binOp .neq 25 (.tmp 123) (.tmp 129) 25) none [7, 13])
    (hS : apS xk yk n c k lk ck lk2 ck2 w0s xa xb E sa zs Mid Fin w0 (fun _ => false) w0.drew)
    (x2 : ∀ w, (Instr.indexAt 37 (.slice (some xa) lk ck) (.int .i64 (k : Nat))).run Try.prog w = .ok (.pointer (some (xa.add k))) w)
    (x3 : ∀ l w, apS xk yk n c k lk ck lk2 ck2 w0s xa xb E sa zs Mid Fin w0 l w → l 7 = false → (Instr.loadAt 31 (.pointer (some (xa.add k)))).run Try.prog w = .ok (.pointer (some ⟨xk, 0, none⟩)) w)
    (x10 : ∀ w, (Instr.indexAt 38 (.slice (some xb) lk2 ck2) (.int .i64 (k : Nat))).run Try.prog w = .ok (.pointer (some (xb.add k))) w)
    (x11 : ∀ l w, apS xk yk n c k lk ck lk2 ck2 w0s xa xb E sa zs Mid Fin w0 l w → l 13 = false → (Instr.loadAt 34 (.pointer (some (xb.add k)))).run Try.prog w = .ok (.pointer (some ⟨yk, 0, none⟩)) w)
    (x14 : ∀ w, (binOp .neq 25 (.int .i64 E) (.int .i64 E)).run Try.prog w = .ok (.bool false) w)
    (u16 : a0.tmps.getD 16 undef = .slice (some xa) lk ck)
    (u17 : a0.tmps.getD 17 undef = .slice (some xb) lk2 ck2)
    (u20 : a0.tmps.getD 20 undef = .int .i64 (k : Nat))
    (u21 : a0.tmps.getD 21 undef = .slice sa n c)
    (hw0s : w0s = w0.heap.size) (hn : n * 8 ≤ 140737488355328) (hty6 : ∀ o, ops[6]? = some o → o.type = 39)
    (hrd : ∀ w, Below w0.heap.size w0 w → Reads .i64 w sa n zs)
    (h12 : ∀ w ca cc, Below w0.heap.size w0 w → RowJ w0s w ca n cc zs → Calls Try.prog 12 #[.pointer (some ⟨xk, 0, none⟩), .slice ca n cc] w fun e W' => e = .returned (.int .i64 E) ∧ Mid W')
    (h13 : ∀ w, Mid w → Calls Try.prog 13 #[.pointer (some ⟨yk, 0, none⟩), .slice sa n c] w fun e W' => e = .returned (.int .i64 E) ∧ Fin W')
    (hs : 131 ≤ a0.tmps.size)
    (fin : ∀ l a w, (∀ j, j < 15 → l j = true) → a.tmps.size = a0.tmps.size → a.defers = a0.defers → (∀ s, (∀ i, i < 15 → apD i ≠ some s) → a.tmps.getD s undef = a0.tmps.getD s undef) → apS xk yk n c k lk ck lk2 ck2 w0s xa xb E sa zs Mid Fin w0 l w → (∀ i d, i < 15 → apD i = some d → apF xk yk n c k lk ck lk2 ck2 w0s xa xb E sa zs Mid Fin l i (a.tmps.getD d undef) w) → Q .normal a w) : (Code.region id ops true).wp Try.prog Q a0 w0 := by
  have r12 : ∀ args w, (callFunc 12 args).run Try.prog w = .ok (.enter 12 args) w := enters_of Try.func12 (by kernel_rfl) rfl
  have r13 : ∀ args w, (callFunc 13 args).run Try.prog w = .ok (.enter 13 args) w := enters_of Try.func13 (by kernel_rfl) rfl
  refine wp_region_inv2 (by kernel_rfl) hlow (Inv 15 apD a0 (fun l _ w => apS xk yk n c k lk ck lk2 ck2 w0s xa xb E sa zs Mid Fin w0 l w) (apF xk yk n c k lk ck lk2 ck2 w0s xa xb E sa zs Mid Fin)) (Inv.start hS) ?_ ?_
  · intro l i o a w ho hl hcl hdep hI
    have hi : i < 15 := by rw [← hsz]; exact (Array.getElem?_eq_some_iff.1 ho).1
    have ev : ∀ (s : Nat), a.eval (.tmp s) = a.tmps.getD s undef := fun _ => rfl
    have evf : ∀ f, a.eval (.func f) = .func (.func f) #[] #[] := fun _ => rfl
    have evc : ∀ c : Value, a.eval (.const c) = c := fun _ => rfl
    have inj : ∀ d, apD i = some d → ∀ j d', j < 15 → apD j = some d' → j ≠ i → d' ≠ d := fun d hd j d' hj hd' hne e => hne (apD_inj j hj i hi (by rw [hd', hd, e]) (by rw [hd']; simp))
    have kp : ∀ s, (∀ i, i < 15 → apD i ≠ some s) → a.tmps.getD s undef = a0.tmps.getD s undef := hI.kept
    have hw : apS xk yk n c k lk ck lk2 ck2 w0s xa xb E sa zs Mid Fin w0 l w := hI.world
    have oth : ∀ j, j ≠ i → (l j || j == i) = l j := fun j hj => by rw [show (j == i) = false by simp [hj], Bool.or_false]
    have sam : (l i || i == i) = true := by simp
    have go : ∀ {d : Nat} {v : Value}, apD i = some d → (i ≠ 7 ∧ i ≠ 13) → apF xk yk n c k lk ck lk2 ck2 w0s xa xb E sa zs Mid Fin (fun j => l j || j == i) i v w → Inv 15 apD a0 (fun l _ w => apS xk yk n c k lk ck lk2 ck2 w0s xa xb E sa zs Mid Fin w0 l w) (apF xk yk n c k lk ck lk2 ck2 w0s xa xb E sa zs Mid Fin) (fun j => l j || j == i) (a.put (some d) v) w := by
      intro d v hD hn hF
      refine hI.put hi hD (Nat.lt_of_lt_of_le (apD_lt i hi d hD) hs) (inj d hD) ?_ hF (fun j u _ _ _ hf => ?_)
      · show apS xk yk n c k lk ck lk2 ck2 w0s xa xb E sa zs Mid Fin w0 _ w
        unfold apS at hw ⊢
        dsimp only
        rw [oth 7 (by omega), oth 13 (by omega)]
        exact hw
      · unfold apF at hf ⊢
        dsimp only
        rw [oth 7 (by omega)]
        exact hf
    rcases (show i = 0 ∨ i = 1 ∨ i = 2 ∨ i = 3 ∨ i = 4 ∨ i = 5 ∨ i = 6 ∨ i = 7 ∨ i = 8 ∨ i = 9 ∨ i = 10 ∨ i = 11 ∨ i = 12 ∨ i = 13 ∨ i = 14 by omega) with rfl | rfl | rfl | rfl | rfl | rfl | rfl | rfl | rfl | rfl | rfl | rfl | rfl | rfl | rfl
    · obtain ⟨o', e1, e2, e3, e4, e5⟩ := o0
      obtain rfl := Option.some.inj (ho.symm.trans e1)
      have dp := dep_of' e5 hdep
      have U16 : a.tmps.getD 16 undef = .slice (some xa) lk ck := (kp 16 (by decide)).trans u16
      exact wpOp_value (v := .slice (some xa) lk ck) (w' := w) ho e4 (by simp [execOp, e3, ev, evc, U16]) (by rw [e2]; exact go rfl (by decide) rfl)
    · obtain ⟨o', e1, e2, e3, e4, e5⟩ := o1
      obtain rfl := Option.some.inj (ho.symm.trans e1)
      have dp := dep_of' e5 hdep
      have U20 : a.tmps.getD 20 undef = .int .i64 (k : Nat) := (kp 20 (by decide)).trans u20
      exact wpOp_value (v := .int .i64 (k : Nat)) (w' := w) ho e4 (by simp [execOp, e3, ev, evc, U20]) (by rw [e2]; exact go rfl (by decide) rfl)
    · obtain ⟨o', e1, e2, e3, e4, e5⟩ := o2
      obtain rfl := Option.some.inj (ho.symm.trans e1)
      have dp := dep_of' e5 hdep
      have V0 : a.tmps.getD 116 undef = .slice (some xa) lk ck := hI.val 0 116 (by decide) rfl (dp 0 (by decide))
      have V1 : a.tmps.getD 117 undef = .int .i64 (k : Nat) := hI.val 1 117 (by decide) rfl (dp 1 (by decide))
      exact wpOp_value (v := .pointer (some (xa.add k))) (w' := w) ho e4 (by simp [execOp, e3, ev, evc, V0, V1, x2 w]) (by rw [e2]; exact go rfl (by decide) rfl)
    · obtain ⟨o', e1, e2, e3, e4, e5⟩ := o3
      obtain rfl := Option.some.inj (ho.symm.trans e1)
      have dp := dep_of' e5 hdep
      have V2 : a.tmps.getD 118 undef = .pointer (some (xa.add k)) := hI.val 2 118 (by decide) rfl (dp 2 (by decide))
      have n7 : l 7 = false := by
        cases e : l 7 with
        | false => rfl
        | true =>
          exfalso
          have y0 := hcl.dep' o7 e 3 (by decide)
          rw [hl] at y0
          cases y0
      exact wpOp_value (v := .pointer (some ⟨xk, 0, none⟩)) (w' := w) ho e4 (by simp [execOp, e3, ev, evc, V2, x3 l w hw n7]) (by rw [e2]; exact go rfl (by decide) rfl)
    · obtain ⟨o', e1, e2, e3, e4, e5⟩ := o4
      obtain rfl := Option.some.inj (ho.symm.trans e1)
      have dp := dep_of' e5 hdep
      have n7 : l 7 = false := by
        cases e : l 7 with
        | false => rfl
        | true =>
          exfalso
          have y0 := hcl.dep' o7 e 6 (by decide)
          have y1 := hcl.dep' o6 y0 4 (by decide)
          rw [hl] at y1
          cases y1
      have n13 : l 13 = false := by
        cases e : l 13 with
        | false => rfl
        | true =>
          exfalso
          have y0 := hcl.dep' o13 e 7 (by decide)
          have y1 := hcl.dep' o7 y0 6 (by decide)
          have y2 := hcl.dep' o6 y1 4 (by decide)
          rw [hl] at y2
          cases y2
      have hb1 := below_new (Below.refl w.heap.size w) (.cells #[] 2)
      refine wpOp_value (v := .slice (some ⟨w.heap.size, 0, none⟩) 0 0) (w' := w.alloc (.cells #[] 2)) ho e4 (by simp [execOp, e3, run_build39]) ?_
      rw [e2]
      refine hI.put hi rfl (Nat.lt_of_lt_of_le (by decide) hs) (inj 120 rfl) ?_ ?_ (fun j u _ _ _ hf => apF_below hf hb1 (oth 7 (by decide)))
      · show apS xk yk n c k lk ck lk2 ck2 w0s xa xb E sa zs Mid Fin w0 _ _
        unfold apS at hw ⊢
        dsimp only
        rw [oth 7 (by decide), oth 13 (by decide)]
        exact ⟨fun _ => below_then (hw.1 n7) hb1, (fun h => by rw [n7] at h; cases h), (fun h => by rw [n13] at h; cases h)⟩
      · exact ⟨_, rfl, fun _ => ⟨by rw [hw0s]; exact (hw.1 n7).size, heap_alloc_new w _⟩⟩
    · obtain ⟨o', e1, e2, e3, e4, e5⟩ := o5
      obtain rfl := Option.some.inj (ho.symm.trans e1)
      have dp := dep_of' e5 hdep
      have U21 : a.tmps.getD 21 undef = .slice sa n c := (kp 21 (by decide)).trans u21
      exact wpOp_value (v := .slice sa n c) (w' := w) ho e4 (by simp [execOp, e3, ev, evc, U21]) (by rw [e2]; exact go rfl (by decide) rfl)
    · obtain ⟨o', e1, e2, e3, e4, e5⟩ := o6
      obtain rfl := Option.some.inj (ho.symm.trans e1)
      have dp := dep_of' e5 hdep
      obtain ⟨g0, V4, f4⟩ : ∃ g0, a.tmps.getD 120 undef = .slice (some ⟨g0, 0, none⟩) 0 0 ∧ (l 7 = false → w0s ≤ g0 ∧ w.heap[g0]? = some (.cells #[] 2 (0, 0))) := hI.val 4 120 (by decide) rfl (dp 4 (by decide))
      have V5 : a.tmps.getD 121 undef = .slice sa n c := hI.val 5 121 (by decide) rfl (dp 5 (by decide))
      have n7 : l 7 = false := by
        cases e : l 7 with
        | false => rfl
        | true =>
          exfalso
          have y0 := hcl.dep' o7 e 6 (by decide)
          rw [hl] at y0
          cases y0
      have n13 : l 13 = false := by
        cases e : l 13 with
        | false => rfl
        | true =>
          exfalso
          have y0 := hcl.dep' o13 e 7 (by decide)
          have y1 := hcl.dep' o7 y0 6 (by decide)
          rw [hl] at y1
          cases y1
      obtain ⟨f1, f2⟩ := f4 n7
      have hlw := (hw.1 n7).size
      obtain ⟨ca, cc, W2, hap, hrow, -, hb1⟩ := run_copyF (c := c) f2 f1 (by rw [hw0s]; exact hlw) (hrd w (hw.1 n7)) hn
      refine wpOp_value (v := .slice ca n cc) (w' := W2) ho e4 (by simp only [execOp, e3, resolve, invoke, builtin, Sem.run_bind, Sem.run_pure, Result.andThen_ok, List.map_toArray, List.map_cons, List.map_nil, ev , V4, V5, hty6 _ ho, hap]) ?_
      rw [e2]
      refine hI.put hi rfl (Nat.lt_of_lt_of_le (by decide) hs) (inj 122 rfl) ?_ ?_ (fun j u _ _ _ hf => apF_below hf hb1 (oth 7 (by decide)))
      · show apS xk yk n c k lk ck lk2 ck2 w0s xa xb E sa zs Mid Fin w0 _ _
        unfold apS at hw ⊢
        dsimp only
        rw [oth 7 (by decide), oth 13 (by decide)]
        exact ⟨fun _ => below_then (hw.1 n7) hb1, (fun h => by rw [n7] at h; cases h), (fun h => by rw [n13] at h; cases h)⟩
      · exact ⟨_, _, rfl, fun _ => hrow⟩
    · obtain ⟨o', e1, e2, e3, e4, e5⟩ := o7
      obtain rfl := Option.some.inj (ho.symm.trans e1)
      have dp := dep_of' e5 hdep
      have V3 : a.tmps.getD 119 undef = .pointer (some ⟨xk, 0, none⟩) := hI.val 3 119 (by decide) rfl (dp 3 (by decide))
      obtain ⟨ca6, cc6, V6, f6⟩ : ∃ ca cc, a.tmps.getD 122 undef = .slice ca n cc ∧ (l 7 = false → RowJ w0s w ca n cc zs) := hI.val 6 122 (by decide) rfl (dp 6 (by decide))
      have n13 : l 13 = false := by
        cases e : l 13 with
        | false => rfl
        | true =>
          exfalso
          have y0 := hcl.dep' o13 e 7 (by decide)
          rw [hl] at y0
          cases y0
      refine wpOp_call (f := 12) (args := #[.pointer (some ⟨xk, 0, none⟩), .slice ca6 n cc6]) ho e4 (by simp [execOp, e3, resolve, invoke, Deferred.ofValue, r12, ev, evf, evc, V3, V6]) ((h12 w ca6 cc6 (hw.1 hl) (f6 hl)).mono ?_)
      rintro e W' ⟨rfl, hF⟩
      refine ⟨_, rfl, ?_⟩
      rw [e2]
      refine hI.put hi rfl (Nat.lt_of_lt_of_le (by decide) hs) (inj 123 rfl) ?_ rfl (fun j u _ _ _ hf => apF_late hf sam)
      show apS xk yk n c k lk ck lk2 ck2 w0s xa xb E sa zs Mid Fin w0 _ _
      unfold apS
      dsimp only
      rw [sam, oth 13 (by decide)]
      exact ⟨(fun h => by cases h), fun _ _ => hF, fun h => by rw [n13] at h; cases h⟩
    · obtain ⟨o', e1, e2, e3, e4, e5⟩ := o8
      obtain rfl := Option.some.inj (ho.symm.trans e1)
      have dp := dep_of' e5 hdep
      have U17 : a.tmps.getD 17 undef = .slice (some xb) lk2 ck2 := (kp 17 (by decide)).trans u17
      exact wpOp_value (v := .slice (some xb) lk2 ck2) (w' := w) ho e4 (by simp [execOp, e3, ev, evc, U17]) (by rw [e2]; exact go rfl (by decide) rfl)
    · obtain ⟨o', e1, e2, e3, e4, e5⟩ := o9
      obtain rfl := Option.some.inj (ho.symm.trans e1)
      have dp := dep_of' e5 hdep
      have U20 : a.tmps.getD 20 undef = .int .i64 (k : Nat) := (kp 20 (by decide)).trans u20
      exact wpOp_value (v := .int .i64 (k : Nat)) (w' := w) ho e4 (by simp [execOp, e3, ev, evc, U20]) (by rw [e2]; exact go rfl (by decide) rfl)
    · obtain ⟨o', e1, e2, e3, e4, e5⟩ := o10
      obtain rfl := Option.some.inj (ho.symm.trans e1)
      have dp := dep_of' e5 hdep
      have V8 : a.tmps.getD 124 undef = .slice (some xb) lk2 ck2 := hI.val 8 124 (by decide) rfl (dp 8 (by decide))
      have V9 : a.tmps.getD 125 undef = .int .i64 (k : Nat) := hI.val 9 125 (by decide) rfl (dp 9 (by decide))
      exact wpOp_value (v := .pointer (some (xb.add k))) (w' := w) ho e4 (by simp [execOp, e3, ev, evc, V8, V9, x10 w]) (by rw [e2]; exact go rfl (by decide) rfl)
    · obtain ⟨o', e1, e2, e3, e4, e5⟩ := o11
      obtain rfl := Option.some.inj (ho.symm.trans e1)
      have dp := dep_of' e5 hdep
      have V10 : a.tmps.getD 126 undef = .pointer (some (xb.add k)) := hI.val 10 126 (by decide) rfl (dp 10 (by decide))
      have n13 : l 13 = false := by
        cases e : l 13 with
        | false => rfl
        | true =>
          exfalso
          have y0 := hcl.dep' o13 e 11 (by decide)
          rw [hl] at y0
          cases y0
      exact wpOp_value (v := .pointer (some ⟨yk, 0, none⟩)) (w' := w) ho e4 (by simp [execOp, e3, ev, evc, V10, x11 l w hw n13]) (by rw [e2]; exact go rfl (by decide) rfl)
    · obtain ⟨o', e1, e2, e3, e4, e5⟩ := o12
      obtain rfl := Option.some.inj (ho.symm.trans e1)
      have dp := dep_of' e5 hdep
      have U21 : a.tmps.getD 21 undef = .slice sa n c := (kp 21 (by decide)).trans u21
      exact wpOp_value (v := .slice sa n c) (w' := w) ho e4 (by simp [execOp, e3, ev, evc, U21]) (by rw [e2]; exact go rfl (by decide) rfl)
    · obtain ⟨o', e1, e2, e3, e4, e5⟩ := o13
      obtain rfl := Option.some.inj (ho.symm.trans e1)
      have dp := dep_of' e5 hdep
      have V7 : a.tmps.getD 123 undef = .int .i64 E := hI.val 7 123 (by decide) rfl (dp 7 (by decide))
      have V11 : a.tmps.getD 127 undef = .pointer (some ⟨yk, 0, none⟩) := hI.val 11 127 (by decide) rfl (dp 11 (by decide))
      have V12 : a.tmps.getD 128 undef = .slice sa n c := hI.val 12 128 (by decide) rfl (dp 12 (by decide))
      refine wpOp_call (f := 13) (args := #[.pointer (some ⟨yk, 0, none⟩), .slice sa n c]) ho e4 (by simp [execOp, e3, resolve, invoke, Deferred.ofValue, r13, ev, evf, evc, V7, V11, V12]) ((h13 w (hw.2.1 (dp 7 (by decide)) hl)).mono ?_)
      rintro e W' ⟨rfl, hF⟩
      refine ⟨_, rfl, ?_⟩
      rw [e2]
      refine hI.put hi rfl (Nat.lt_of_lt_of_le (by decide) hs) (inj 129 rfl) ?_ rfl (fun j u _ _ _ hf => apF_late hf ((oth 7 (by decide)).trans (dp 7 (by decide))))
      show apS xk yk n c k lk ck lk2 ck2 w0s xa xb E sa zs Mid Fin w0 _ _
      unfold apS
      dsimp only
      rw [sam, oth 7 (by decide)]
      exact ⟨(fun h => by rw [dp 7 (by decide)] at h; cases h), (fun _ h => by cases h), fun _ => hF⟩
    · obtain ⟨o', e1, e2, e3, e4, e5⟩ := o14
      obtain rfl := Option.some.inj (ho.symm.trans e1)
      have dp := dep_of' e5 hdep
      have V7 : a.tmps.getD 123 undef = .int .i64 E := hI.val 7 123 (by decide) rfl (dp 7 (by decide))
      have V13 : a.tmps.getD 129 undef = .int .i64 E := hI.val 13 129 (by decide) rfl (dp 13 (by decide))
      exact wpOp_value (v := .bool false) (w' := w) ho e4 (by simp [execOp, e3, ev, evc, V7, V13, x14 w, eqGuard]) (by rw [e2]; exact go rfl (by decide) rfl)
  · intro l a w hall hI
    have all : ∀ j, j < 15 → l j = true := fun j hj => hall j (by rw [hsz]; exact hj)
    exact fin l a w all hI.size hI.defers hI.kept hI.world (fun i d hi hD => hI.val i d hi hD (all i hi))
end

/- KvDoes' regions that let go of rows and hold both against each other. -/
section
open Go.ChangeShapes Go.WideShapes Go.ChangeAt Go.RowKit
set_option linter.unusedVariables false
set_option linter.unusedSimpArgs false

def kaD (i : Nat) : Option Nat := match i with | 0 => some 157 | 1 => some 158 | 2 => some 159 | 3 => some 160 | 4 => some 161 | 5 => some 162 | 6 => some 163 | _ => none
theorem kaD_inj : ∀ i, i < 7 → ∀ j, j < 7 → kaD i = kaD j → kaD i ≠ none → i = j := by decide
theorem kaD_lt : ∀ i, i < 7 → ∀ d, kaD i = some d → d < 164 := by
  intro i hi d h
  have : ∀ i, i < 7 → (kaD i).all (fun d => decide (d < 164)) = true := by decide
  have := this i hi
  rw [h] at this
  simpa using this
def kaF (xk ob k lk ck : Nat) (xa : Addr) (N : Int) (Fin : World → Prop) (l : Nat → Bool) (i : Nat) (q : Value) (w : World) : Prop := match i with
  | 0 => q = .slice (some xa) lk ck
  | 1 => q = .int .i64 (k : Nat)
  | 2 => q = .pointer (some (xa.add k))
  | 3 => q = .pointer (some ⟨xk, 0, none⟩)
  | 4 => q = .pointer (some ⟨ob, 3, none⟩)
  | 5 => q = .int .i64 N
  | 6 => True
  | _ => True
def kaS (xk ob k lk ck : Nat) (xa : Addr) (N : Int) (Fin : World → Prop) (w0 : World) (l : Nat → Bool) (w : World) : Prop := (l 6 = false → w = w0.drew) ∧ (l 6 = true → Fin w)

set_option maxHeartbeats 8000000 in
theorem ka_region {id : Nat} {ops : Array Oper} {Q : Exit → Act → World → Prop} {a0 : Act} {w0 : World} (xk ob k lk ck : Nat) (xa : Addr) (N : Int) (Fin : World → Prop) (hlow : lowB ops = true) (hsz : ops.size = 7)
    (o0 : OpIn ops 0 (some 157) (.move (.tmp 16)) none []) (o1 : OpIn ops 1 (some 158) (.move (.tmp 20)) none []) (o2 : OpIn ops 2 (some 159) (.indexAddr 37 (.tmp 157) (.tmp 158)) none [0, 1]) (o3 : OpIn ops 3 (some 160) (.load 31 (.tmp 159)) none [2]) (o4 : OpIn ops 4 (some 161) (.fieldAddr 41 (.tmp 19) 3) none []) (o5 : OpIn ops 5 (some 162) (.load 3 (.tmp 161)) none [4]) (o6 : OpIn ops 6 (some 163) (.call { callee := .value (.func 16), args := #[.tmp 160, .tmp 162], argTypes := #[31, 3] }) none [3, 5])
    (hS : kaS xk ob k lk ck xa N Fin w0 (fun _ => false) w0.drew)
    (x2 : ∀ w, (Instr.indexAt 37 (.slice (some xa) lk ck) (.int .i64 (k : Nat))).run Try.prog w = .ok (.pointer (some (xa.add k))) w)
    (x3 : ∀ l w, kaS xk ob k lk ck xa N Fin w0 l w → l 6 = false → (Instr.loadAt 31 (.pointer (some (xa.add k)))).run Try.prog w = .ok (.pointer (some ⟨xk, 0, none⟩)) w)
    (x4 : ∀ w, (Instr.fieldAt 41 (.pointer (some ⟨ob, 0, none⟩)) 3).run Try.prog w = .ok (.pointer (some ⟨ob, 3, none⟩)) w)
    (x5 : ∀ l w, kaS xk ob k lk ck xa N Fin w0 l w → l 6 = false → (Instr.loadAt 3 (.pointer (some ⟨ob, 3, none⟩))).run Try.prog w = .ok (.int .i64 N) w)
    (u16 : a0.tmps.getD 16 undef = .slice (some xa) lk ck)
    (u19 : a0.tmps.getD 19 undef = .pointer (some ⟨ob, 0, none⟩))
    (u20 : a0.tmps.getD 20 undef = .int .i64 (k : Nat))
    (hcall : ∀ w, w = w0.drew → Calls Try.prog 16 #[.pointer (some ⟨xk, 0, none⟩), .int .i64 N] w fun e W' => ∃ v, e = .returned v ∧ Fin W')
    (hs : 164 ≤ a0.tmps.size)
    (fin : ∀ l a w, (∀ j, j < 7 → l j = true) → a.tmps.size = a0.tmps.size → a.defers = a0.defers → (∀ s, (∀ i, i < 7 → kaD i ≠ some s) → a.tmps.getD s undef = a0.tmps.getD s undef) → kaS xk ob k lk ck xa N Fin w0 l w → (∀ i d, i < 7 → kaD i = some d → kaF xk ob k lk ck xa N Fin l i (a.tmps.getD d undef) w) → Q .normal a w) : (Code.region id ops true).wp Try.prog Q a0 w0 := by
  have r16 : ∀ args w, (callFunc 16 args).run Try.prog w = .ok (.enter 16 args) w := enters_of Try.func16 (by kernel_rfl) rfl
  refine wp_region_inv2 (by kernel_rfl) hlow (Inv 7 kaD a0 (fun l _ w => kaS xk ob k lk ck xa N Fin w0 l w) (kaF xk ob k lk ck xa N Fin)) (Inv.start hS) ?_ ?_
  · intro l i o a w ho hl hcl hdep hI
    have hi : i < 7 := by rw [← hsz]; exact (Array.getElem?_eq_some_iff.1 ho).1
    have ev : ∀ (s : Nat), a.eval (.tmp s) = a.tmps.getD s undef := fun _ => rfl
    have evf : ∀ f, a.eval (.func f) = .func (.func f) #[] #[] := fun _ => rfl
    have evc : ∀ c : Value, a.eval (.const c) = c := fun _ => rfl
    have inj : ∀ d, kaD i = some d → ∀ j d', j < 7 → kaD j = some d' → j ≠ i → d' ≠ d := fun d hd j d' hj hd' hne e => hne (kaD_inj j hj i hi (by rw [hd', hd, e]) (by rw [hd']; simp))
    have kp : ∀ s, (∀ i, i < 7 → kaD i ≠ some s) → a.tmps.getD s undef = a0.tmps.getD s undef := hI.kept
    have hw : kaS xk ob k lk ck xa N Fin w0 l w := hI.world
    have oth : ∀ j, j ≠ i → (l j || j == i) = l j := fun j hj => by rw [show (j == i) = false by simp [hj], Bool.or_false]
    have sam : (l i || i == i) = true := by simp
    have go : ∀ {d : Nat} {v : Value}, kaD i = some d → (i ≠ 6) → kaF xk ob k lk ck xa N Fin (fun j => l j || j == i) i v w → Inv 7 kaD a0 (fun l _ w => kaS xk ob k lk ck xa N Fin w0 l w) (kaF xk ob k lk ck xa N Fin) (fun j => l j || j == i) (a.put (some d) v) w := by
      intro d v hD hn hF
      refine hI.put hi hD (Nat.lt_of_lt_of_le (kaD_lt i hi d hD) hs) (inj d hD) ?_ hF (fun j u _ _ _ hf => ?_)
      · show kaS xk ob k lk ck xa N Fin w0 _ w
        unfold kaS at hw ⊢
        dsimp only
        rw [oth 6 (by omega)]
        exact hw
      · unfold kaF at hf ⊢
        skip
        exact hf
    rcases (show i = 0 ∨ i = 1 ∨ i = 2 ∨ i = 3 ∨ i = 4 ∨ i = 5 ∨ i = 6 by omega) with rfl | rfl | rfl | rfl | rfl | rfl | rfl
    · obtain ⟨o', e1, e2, e3, e4, e5⟩ := o0
      obtain rfl := Option.some.inj (ho.symm.trans e1)
      have dp := dep_of' e5 hdep
      have U16 : a.tmps.getD 16 undef = .slice (some xa) lk ck := (kp 16 (by decide)).trans u16
      exact wpOp_value (v := .slice (some xa) lk ck) (w' := w) ho e4 (by simp [execOp, e3, ev, evc, U16]) (by rw [e2]; exact go rfl (by decide) rfl)
    · obtain ⟨o', e1, e2, e3, e4, e5⟩ := o1
      obtain rfl := Option.some.inj (ho.symm.trans e1)
      have dp := dep_of' e5 hdep
      have U20 : a.tmps.getD 20 undef = .int .i64 (k : Nat) := (kp 20 (by decide)).trans u20
      exact wpOp_value (v := .int .i64 (k : Nat)) (w' := w) ho e4 (by simp [execOp, e3, ev, evc, U20]) (by rw [e2]; exact go rfl (by decide) rfl)
    · obtain ⟨o', e1, e2, e3, e4, e5⟩ := o2
      obtain rfl := Option.some.inj (ho.symm.trans e1)
      have dp := dep_of' e5 hdep
      have V0 : a.tmps.getD 157 undef = .slice (some xa) lk ck := hI.val 0 157 (by decide) rfl (dp 0 (by decide))
      have V1 : a.tmps.getD 158 undef = .int .i64 (k : Nat) := hI.val 1 158 (by decide) rfl (dp 1 (by decide))
      exact wpOp_value (v := .pointer (some (xa.add k))) (w' := w) ho e4 (by simp [execOp, e3, ev, evc, V0, V1, x2 w]) (by rw [e2]; exact go rfl (by decide) rfl)
    · obtain ⟨o', e1, e2, e3, e4, e5⟩ := o3
      obtain rfl := Option.some.inj (ho.symm.trans e1)
      have dp := dep_of' e5 hdep
      have V2 : a.tmps.getD 159 undef = .pointer (some (xa.add k)) := hI.val 2 159 (by decide) rfl (dp 2 (by decide))
      have n6 : l 6 = false := by
        cases e : l 6 with
        | false => rfl
        | true =>
          exfalso
          have y0 := hcl.dep' o6 e 3 (by decide)
          rw [hl] at y0
          cases y0
      exact wpOp_value (v := .pointer (some ⟨xk, 0, none⟩)) (w' := w) ho e4 (by simp [execOp, e3, ev, evc, V2, x3 l w hw n6]) (by rw [e2]; exact go rfl (by decide) rfl)
    · obtain ⟨o', e1, e2, e3, e4, e5⟩ := o4
      obtain rfl := Option.some.inj (ho.symm.trans e1)
      have dp := dep_of' e5 hdep
      have U19 : a.tmps.getD 19 undef = .pointer (some ⟨ob, 0, none⟩) := (kp 19 (by decide)).trans u19
      exact wpOp_value (v := .pointer (some ⟨ob, 3, none⟩)) (w' := w) ho e4 (by simp [execOp, e3, ev, evc, U19, x4 w]) (by rw [e2]; exact go rfl (by decide) rfl)
    · obtain ⟨o', e1, e2, e3, e4, e5⟩ := o5
      obtain rfl := Option.some.inj (ho.symm.trans e1)
      have dp := dep_of' e5 hdep
      have V4 : a.tmps.getD 161 undef = .pointer (some ⟨ob, 3, none⟩) := hI.val 4 161 (by decide) rfl (dp 4 (by decide))
      have n6 : l 6 = false := by
        cases e : l 6 with
        | false => rfl
        | true =>
          exfalso
          have y0 := hcl.dep' o6 e 5 (by decide)
          rw [hl] at y0
          cases y0
      exact wpOp_value (v := .int .i64 N) (w' := w) ho e4 (by simp [execOp, e3, ev, evc, V4, x5 l w hw n6]) (by rw [e2]; exact go rfl (by decide) rfl)
    · obtain ⟨o', e1, e2, e3, e4, e5⟩ := o6
      obtain rfl := Option.some.inj (ho.symm.trans e1)
      have dp := dep_of' e5 hdep
      have V3 : a.tmps.getD 160 undef = .pointer (some ⟨xk, 0, none⟩) := hI.val 3 160 (by decide) rfl (dp 3 (by decide))
      have V5 : a.tmps.getD 162 undef = .int .i64 N := hI.val 5 162 (by decide) rfl (dp 5 (by decide))
      refine wpOp_call (f := 16) (args := #[.pointer (some ⟨xk, 0, none⟩), .int .i64 N]) ho e4 (by simp [execOp, e3, resolve, invoke, Deferred.ofValue, r16, ev, evf, evc, V3, V5]) ((hcall w (hw.1 hl)).mono ?_)
      rintro e W' ⟨v, rfl, hF⟩
      refine ⟨_, rfl, ?_⟩
      rw [e2]
      refine hI.put hi rfl (Nat.lt_of_lt_of_le (by decide) hs) (inj 163 rfl) ?_ trivial (fun j u _ _ hne hf => by unfold kaF at hf ⊢; exact hf)
      show kaS xk ob k lk ck xa N Fin w0 _ _
      unfold kaS
      dsimp only
      rw [sam]
      exact ⟨(fun h => by cases h), fun _ => hF⟩
  · intro l a w hall hI
    have all : ∀ j, j < 7 → l j = true := fun j hj => hall j (by rw [hsz]; exact hj)
    exact fin l a w all hI.size hI.defers hI.kept hI.world (fun i d hi hD => hI.val i d hi hD (all i hi))

def kbD (i : Nat) : Option Nat := match i with | 0 => some 164 | 1 => some 165 | 2 => some 166 | 3 => some 167 | 4 => some 168 | 5 => some 169 | 6 => some 170 | _ => none
theorem kbD_inj : ∀ i, i < 7 → ∀ j, j < 7 → kbD i = kbD j → kbD i ≠ none → i = j := by decide
theorem kbD_lt : ∀ i, i < 7 → ∀ d, kbD i = some d → d < 171 := by
  intro i hi d h
  have : ∀ i, i < 7 → (kbD i).all (fun d => decide (d < 171)) = true := by decide
  have := this i hi
  rw [h] at this
  simpa using this
def kbF (xk ob k lk ck : Nat) (xa : Addr) (N : Int) (Fin : World → Prop) (l : Nat → Bool) (i : Nat) (q : Value) (w : World) : Prop := match i with
  | 0 => q = .slice (some xa) lk ck
  | 1 => q = .int .i64 (k : Nat)
  | 2 => q = .pointer (some (xa.add k))
  | 3 => q = .pointer (some ⟨xk, 0, none⟩)
  | 4 => q = .pointer (some ⟨ob, 3, none⟩)
  | 5 => q = .int .i64 N
  | 6 => True
  | _ => True
def kbS (xk ob k lk ck : Nat) (xa : Addr) (N : Int) (Fin : World → Prop) (w0 : World) (l : Nat → Bool) (w : World) : Prop := (l 6 = false → w = w0.drew) ∧ (l 6 = true → Fin w)

set_option maxHeartbeats 8000000 in
theorem kb_region {id : Nat} {ops : Array Oper} {Q : Exit → Act → World → Prop} {a0 : Act} {w0 : World} (xk ob k lk ck : Nat) (xa : Addr) (N : Int) (Fin : World → Prop) (hlow : lowB ops = true) (hsz : ops.size = 7)
    (o0 : OpIn ops 0 (some 164) (.move (.tmp 17)) none []) (o1 : OpIn ops 1 (some 165) (.move (.tmp 20)) none []) (o2 : OpIn ops 2 (some 166) (.indexAddr 38 (.tmp 164) (.tmp 165)) none [0, 1]) (o3 : OpIn ops 3 (some 167) (.load 34 (.tmp 166)) none [2]) (o4 : OpIn ops 4 (some 168) (.fieldAddr 41 (.tmp 19) 3) none []) (o5 : OpIn ops 5 (some 169) (.load 3 (.tmp 168)) none [4]) (o6 : OpIn ops 6 (some 170) (.call { callee := .value (.func 17), args := #[.tmp 167, .tmp 169], argTypes := #[34, 3] }) none [3, 5])
    (hS : kbS xk ob k lk ck xa N Fin w0 (fun _ => false) w0.drew)
    (x2 : ∀ w, (Instr.indexAt 38 (.slice (some xa) lk ck) (.int .i64 (k : Nat))).run Try.prog w = .ok (.pointer (some (xa.add k))) w)
    (x3 : ∀ l w, kbS xk ob k lk ck xa N Fin w0 l w → l 6 = false → (Instr.loadAt 34 (.pointer (some (xa.add k)))).run Try.prog w = .ok (.pointer (some ⟨xk, 0, none⟩)) w)
    (x4 : ∀ w, (Instr.fieldAt 41 (.pointer (some ⟨ob, 0, none⟩)) 3).run Try.prog w = .ok (.pointer (some ⟨ob, 3, none⟩)) w)
    (x5 : ∀ l w, kbS xk ob k lk ck xa N Fin w0 l w → l 6 = false → (Instr.loadAt 3 (.pointer (some ⟨ob, 3, none⟩))).run Try.prog w = .ok (.int .i64 N) w)
    (u17 : a0.tmps.getD 17 undef = .slice (some xa) lk ck)
    (u19 : a0.tmps.getD 19 undef = .pointer (some ⟨ob, 0, none⟩))
    (u20 : a0.tmps.getD 20 undef = .int .i64 (k : Nat))
    (hcall : ∀ w, w = w0.drew → Calls Try.prog 17 #[.pointer (some ⟨xk, 0, none⟩), .int .i64 N] w fun e W' => ∃ v, e = .returned v ∧ Fin W')
    (hs : 171 ≤ a0.tmps.size)
    (fin : ∀ l a w, (∀ j, j < 7 → l j = true) → a.tmps.size = a0.tmps.size → a.defers = a0.defers → (∀ s, (∀ i, i < 7 → kbD i ≠ some s) → a.tmps.getD s undef = a0.tmps.getD s undef) → kbS xk ob k lk ck xa N Fin w0 l w → (∀ i d, i < 7 → kbD i = some d → kbF xk ob k lk ck xa N Fin l i (a.tmps.getD d undef) w) → Q .normal a w) : (Code.region id ops true).wp Try.prog Q a0 w0 := by
  have r17 : ∀ args w, (callFunc 17 args).run Try.prog w = .ok (.enter 17 args) w := enters_of Try.func17 (by kernel_rfl) rfl
  refine wp_region_inv2 (by kernel_rfl) hlow (Inv 7 kbD a0 (fun l _ w => kbS xk ob k lk ck xa N Fin w0 l w) (kbF xk ob k lk ck xa N Fin)) (Inv.start hS) ?_ ?_
  · intro l i o a w ho hl hcl hdep hI
    have hi : i < 7 := by rw [← hsz]; exact (Array.getElem?_eq_some_iff.1 ho).1
    have ev : ∀ (s : Nat), a.eval (.tmp s) = a.tmps.getD s undef := fun _ => rfl
    have evf : ∀ f, a.eval (.func f) = .func (.func f) #[] #[] := fun _ => rfl
    have evc : ∀ c : Value, a.eval (.const c) = c := fun _ => rfl
    have inj : ∀ d, kbD i = some d → ∀ j d', j < 7 → kbD j = some d' → j ≠ i → d' ≠ d := fun d hd j d' hj hd' hne e => hne (kbD_inj j hj i hi (by rw [hd', hd, e]) (by rw [hd']; simp))
    have kp : ∀ s, (∀ i, i < 7 → kbD i ≠ some s) → a.tmps.getD s undef = a0.tmps.getD s undef := hI.kept
    have hw : kbS xk ob k lk ck xa N Fin w0 l w := hI.world
    have oth : ∀ j, j ≠ i → (l j || j == i) = l j := fun j hj => by rw [show (j == i) = false by simp [hj], Bool.or_false]
    have sam : (l i || i == i) = true := by simp
    have go : ∀ {d : Nat} {v : Value}, kbD i = some d → (i ≠ 6) → kbF xk ob k lk ck xa N Fin (fun j => l j || j == i) i v w → Inv 7 kbD a0 (fun l _ w => kbS xk ob k lk ck xa N Fin w0 l w) (kbF xk ob k lk ck xa N Fin) (fun j => l j || j == i) (a.put (some d) v) w := by
      intro d v hD hn hF
      refine hI.put hi hD (Nat.lt_of_lt_of_le (kbD_lt i hi d hD) hs) (inj d hD) ?_ hF (fun j u _ _ _ hf => ?_)
      · show kbS xk ob k lk ck xa N Fin w0 _ w
        unfold kbS at hw ⊢
        dsimp only
        rw [oth 6 (by omega)]
        exact hw
      · unfold kbF at hf ⊢
        skip
        exact hf
    rcases (show i = 0 ∨ i = 1 ∨ i = 2 ∨ i = 3 ∨ i = 4 ∨ i = 5 ∨ i = 6 by omega) with rfl | rfl | rfl | rfl | rfl | rfl | rfl
    · obtain ⟨o', e1, e2, e3, e4, e5⟩ := o0
      obtain rfl := Option.some.inj (ho.symm.trans e1)
      have dp := dep_of' e5 hdep
      have U17 : a.tmps.getD 17 undef = .slice (some xa) lk ck := (kp 17 (by decide)).trans u17
      exact wpOp_value (v := .slice (some xa) lk ck) (w' := w) ho e4 (by simp [execOp, e3, ev, evc, U17]) (by rw [e2]; exact go rfl (by decide) rfl)
    · obtain ⟨o', e1, e2, e3, e4, e5⟩ := o1
      obtain rfl := Option.some.inj (ho.symm.trans e1)
      have dp := dep_of' e5 hdep
      have U20 : a.tmps.getD 20 undef = .int .i64 (k : Nat) := (kp 20 (by decide)).trans u20
      exact wpOp_value (v := .int .i64 (k : Nat)) (w' := w) ho e4 (by simp [execOp, e3, ev, evc, U20]) (by rw [e2]; exact go rfl (by decide) rfl)
    · obtain ⟨o', e1, e2, e3, e4, e5⟩ := o2
      obtain rfl := Option.some.inj (ho.symm.trans e1)
      have dp := dep_of' e5 hdep
      have V0 : a.tmps.getD 164 undef = .slice (some xa) lk ck := hI.val 0 164 (by decide) rfl (dp 0 (by decide))
      have V1 : a.tmps.getD 165 undef = .int .i64 (k : Nat) := hI.val 1 165 (by decide) rfl (dp 1 (by decide))
      exact wpOp_value (v := .pointer (some (xa.add k))) (w' := w) ho e4 (by simp [execOp, e3, ev, evc, V0, V1, x2 w]) (by rw [e2]; exact go rfl (by decide) rfl)
    · obtain ⟨o', e1, e2, e3, e4, e5⟩ := o3
      obtain rfl := Option.some.inj (ho.symm.trans e1)
      have dp := dep_of' e5 hdep
      have V2 : a.tmps.getD 166 undef = .pointer (some (xa.add k)) := hI.val 2 166 (by decide) rfl (dp 2 (by decide))
      have n6 : l 6 = false := by
        cases e : l 6 with
        | false => rfl
        | true =>
          exfalso
          have y0 := hcl.dep' o6 e 3 (by decide)
          rw [hl] at y0
          cases y0
      exact wpOp_value (v := .pointer (some ⟨xk, 0, none⟩)) (w' := w) ho e4 (by simp [execOp, e3, ev, evc, V2, x3 l w hw n6]) (by rw [e2]; exact go rfl (by decide) rfl)
    · obtain ⟨o', e1, e2, e3, e4, e5⟩ := o4
      obtain rfl := Option.some.inj (ho.symm.trans e1)
      have dp := dep_of' e5 hdep
      have U19 : a.tmps.getD 19 undef = .pointer (some ⟨ob, 0, none⟩) := (kp 19 (by decide)).trans u19
      exact wpOp_value (v := .pointer (some ⟨ob, 3, none⟩)) (w' := w) ho e4 (by simp [execOp, e3, ev, evc, U19, x4 w]) (by rw [e2]; exact go rfl (by decide) rfl)
    · obtain ⟨o', e1, e2, e3, e4, e5⟩ := o5
      obtain rfl := Option.some.inj (ho.symm.trans e1)
      have dp := dep_of' e5 hdep
      have V4 : a.tmps.getD 168 undef = .pointer (some ⟨ob, 3, none⟩) := hI.val 4 168 (by decide) rfl (dp 4 (by decide))
      have n6 : l 6 = false := by
        cases e : l 6 with
        | false => rfl
        | true =>
          exfalso
          have y0 := hcl.dep' o6 e 5 (by decide)
          rw [hl] at y0
          cases y0
      exact wpOp_value (v := .int .i64 N) (w' := w) ho e4 (by simp [execOp, e3, ev, evc, V4, x5 l w hw n6]) (by rw [e2]; exact go rfl (by decide) rfl)
    · obtain ⟨o', e1, e2, e3, e4, e5⟩ := o6
      obtain rfl := Option.some.inj (ho.symm.trans e1)
      have dp := dep_of' e5 hdep
      have V3 : a.tmps.getD 167 undef = .pointer (some ⟨xk, 0, none⟩) := hI.val 3 167 (by decide) rfl (dp 3 (by decide))
      have V5 : a.tmps.getD 169 undef = .int .i64 N := hI.val 5 169 (by decide) rfl (dp 5 (by decide))
      refine wpOp_call (f := 17) (args := #[.pointer (some ⟨xk, 0, none⟩), .int .i64 N]) ho e4 (by simp [execOp, e3, resolve, invoke, Deferred.ofValue, r17, ev, evf, evc, V3, V5]) ((hcall w (hw.1 hl)).mono ?_)
      rintro e W' ⟨v, rfl, hF⟩
      refine ⟨_, rfl, ?_⟩
      rw [e2]
      refine hI.put hi rfl (Nat.lt_of_lt_of_le (by decide) hs) (inj 170 rfl) ?_ trivial (fun j u _ _ hne hf => by unfold kbF at hf ⊢; exact hf)
      show kbS xk ob k lk ck xa N Fin w0 _ _
      unfold kbS
      dsimp only
      rw [sam]
      exact ⟨(fun h => by cases h), fun _ => hF⟩
  · intro l a w hall hI
    have all : ∀ j, j < 7 → l j = true := fun j hj => hall j (by rw [hsz]; exact hj)
    exact fin l a w all hI.size hI.defers hI.kept hI.world (fun i d hi hD => hI.val i d hi hD (all i hi))

def saD (i : Nat) : Option Nat := match i with | 0 => some 183 | 1 => some 184 | 2 => some 185 | 3 => some 186 | 4 => some 187 | 5 => some 188 | 6 => some 189 | 7 => some 190 | 8 => some 191 | 9 => some 192 | 10 => some 193 | 11 => some 194 | 12 => some 195 | 13 => some 196 | 14 => some 197 | 15 => some 198 | 16 => some 199 | 17 => some 200 | _ => none
theorem saD_inj : ∀ i, i < 18 → ∀ j, j < 18 → saD i = saD j → saD i ≠ none → i = j := by decide
theorem saD_lt : ∀ i, i < 18 → ∀ d, saD i = some d → d < 201 := by
  intro i hi d h
  have : ∀ i, i < 18 → (saD i).all (fun d => decide (d < 201)) = true := by decide
  have := this i hi
  rw [h] at this
  simpa using this
def saF (xk yk ob b b2 k lk ck lk2 ck2 : Nat) (xa xb : Addr) (N : Int) (i : Nat) (q : Value) (w : World) : Prop := match i with
  | 0 => q = .slice (some xa) lk ck
  | 1 => q = .int .i64 (k : Nat)
  | 2 => q = .pointer (some (xa.add k))
  | 3 => q = .pointer (some ⟨xk, 0, none⟩)
  | 4 => q = .slice (some xb) lk2 ck2
  | 5 => q = .int .i64 (k : Nat)
  | 6 => q = .pointer (some (xb.add k))
  | 7 => q = .pointer (some ⟨yk, 0, none⟩)
  | 8 => q = .pointer (some ⟨ob, 3, none⟩)
  | 9 => q = .int .i64 N
  | 10 => q = .bool true
  | 11 => q = .bool false
  | 12 => q = .bool false
  | 13 => q = .pointer (some ⟨b, 0, none⟩)
  | 14 => q = .pointer (some ⟨b2, 0, none⟩)
  | 15 => q = .bool true
  | 16 => q = .bool false
  | 17 => q = .bool false
  | _ => True
theorem saF_below {xk yk ob b b2 k lk ck lk2 ck2 : Nat} {xa xb : Addr} {N : Int} {i : Nat} {q : Value} {w w' : World} (h : saF xk yk ob b b2 k lk ck lk2 ck2 xa xb N i q w) (hb : Below w.heap.size w w') : saF xk yk ob b b2 k lk ck lk2 ck2 xa xb N i q w' := by
  unfold saF at h ⊢
  split
  · exact h
  · exact h
  · exact h
  · exact h
  · exact h
  · exact h
  · exact h
  · exact h
  · exact h
  · exact h
  · exact h
  · exact h
  · exact h
  · exact h
  · exact h
  · exact h
  · exact h
  · exact h
  · trivial

set_option maxHeartbeats 8000000 in
theorem sa_region {id : Nat} {ops : Array Oper} {Q : Exit → Act → World → Prop} {a0 : Act} {w0 : World} (xk yk ob b b2 k lk ck lk2 ck2 : Nat) (xa xb : Addr) (N : Int) (S : World → Prop) (hlow : lowB ops = true) (hsz : ops.size = 18)
    (o0 : OpIn ops 0 (some 183) (.move (.tmp 16)) none []) (o1 : OpIn ops 1 (some 184) (.move (.tmp 20)) none []) (o2 : OpIn ops 2 (some 185) (.indexAddr 37 (.tmp 183) (.tmp 184)) none [0, 1]) (o3 : OpIn ops 3 (some 186) (.load 31 (.tmp 185)) none [2]) (o4 : OpIn ops 4 (some 187) (.move (.tmp 17)) none []) (o5 : OpIn ops 5 (some 188) (.move (.tmp 20)) none []) (o6 : OpIn ops 6 (some 189) (.indexAddr 38 (.tmp 187) (.tmp 188)) none [4, 5]) (o7 : OpIn ops 7 (some 190) (.load 34 (.tmp 189)) none [6]) (o8 : OpIn ops 8 (some 191) (.fieldAddr 41 (.tmp 19) 3) none []) (o9 : OpIn ops 9 (some 192) (.load 3 (.tmp 191)) none [8]) (o10 : OpIn ops 10 (some 193) (.call { callee := .value (.func 20), args := #[.tmp 186, .tmp 190, .tmp 192], argTypes := #[31, 34, 3] }) none [3, 7, 9]) (o11 : OpIn ops 11 (some 194) (.unOp .not 4 (.tmp 193)) none [10]) (o12 : OpIn ops 12 (some 195) (.move (.tmp 194)) none [11]) (o13 : OpIn ops 13 (some 196) (.move (.tmp 9)) (some (12, false)) [12]) (o14 : OpIn ops 14 (some 197) (.move (.tmp 11)) (some (12, false)) [12]) (o15 : OpIn ops 15 (some 198) (.call { callee := .value (.func 21), args := #[.tmp 196, .tmp 197], argTypes := #[24, 28] }) (some (12, false)) [12, 13, 14]) (o16 : OpIn ops 16 (some 199) (.unOp .not 4 (.tmp 198)) (some (12, false)) [12, 15]) (o17 : OpIn ops 17 (some 200) (.pick (.tmp 195) (.const (.bool true)) (.tmp 199)) none [12, 16])
    (hS : S w0.drew)
    (x2 : ∀ w, (Instr.indexAt 37 (.slice (some xa) lk ck) (.int .i64 (k : Nat))).run Try.prog w = .ok (.pointer (some (xa.add k))) w)
    (x3 : ∀ w, S w → (Instr.loadAt 31 (.pointer (some (xa.add k)))).run Try.prog w = .ok (.pointer (some ⟨xk, 0, none⟩)) w)
    (x6 : ∀ w, (Instr.indexAt 38 (.slice (some xb) lk2 ck2) (.int .i64 (k : Nat))).run Try.prog w = .ok (.pointer (some (xb.add k))) w)
    (x7 : ∀ w, S w → (Instr.loadAt 34 (.pointer (some (xb.add k)))).run Try.prog w = .ok (.pointer (some ⟨yk, 0, none⟩)) w)
    (x8 : ∀ w, (Instr.fieldAt 41 (.pointer (some ⟨ob, 0, none⟩)) 3).run Try.prog w = .ok (.pointer (some ⟨ob, 3, none⟩)) w)
    (x9 : ∀ w, S w → (Instr.loadAt 3 (.pointer (some ⟨ob, 3, none⟩))).run Try.prog w = .ok (.int .i64 N) w)
    (x10 : ∀ w, S w → Calls Try.prog 20 #[.pointer (some ⟨xk, 0, none⟩), .pointer (some ⟨yk, 0, none⟩), .int .i64 N] w fun e w' => e = .returned (.bool true) ∧ Below w.heap.size w w' ∧ S w')
    (x15 : ∀ w, S w → Calls Try.prog 21 #[.pointer (some ⟨b, 0, none⟩), .pointer (some ⟨b2, 0, none⟩)] w fun e w' => e = .returned (.bool true) ∧ Below w.heap.size w w' ∧ S w')
    (u9 : a0.tmps.getD 9 undef = .pointer (some ⟨b, 0, none⟩))
    (u11 : a0.tmps.getD 11 undef = .pointer (some ⟨b2, 0, none⟩))
    (u16 : a0.tmps.getD 16 undef = .slice (some xa) lk ck)
    (u17 : a0.tmps.getD 17 undef = .slice (some xb) lk2 ck2)
    (u19 : a0.tmps.getD 19 undef = .pointer (some ⟨ob, 0, none⟩))
    (u20 : a0.tmps.getD 20 undef = .int .i64 (k : Nat))
    (hs : 201 ≤ a0.tmps.size)
    (fin : ∀ a w, a.tmps.size = a0.tmps.size → a.defers = a0.defers → (∀ s, (∀ i, i < 18 → saD i ≠ some s) → a.tmps.getD s undef = a0.tmps.getD s undef) → S w → (∀ i d, i < 18 → saD i = some d → saF xk yk ob b b2 k lk ck lk2 ck2 xa xb N i (a.tmps.getD d undef) w) → Q .normal a w) : (Code.region id ops true).wp Try.prog Q a0 w0 := by
  have r20 : ∀ args w, (callFunc 20 args).run Try.prog w = .ok (.enter 20 args) w := enters_of Try.func20 (by kernel_rfl) rfl
  have r21 : ∀ args w, (callFunc 21 args).run Try.prog w = .ok (.enter 21 args) w := enters_of Try.func21 (by kernel_rfl) rfl
  refine wp_region_inv2 (by kernel_rfl) hlow (Inv 18 saD a0 (fun _ _ w => S w) (fun _ => saF xk yk ob b b2 k lk ck lk2 ck2 xa xb N)) (Inv.start hS) ?_ ?_
  · intro l i o a w ho hl hcl hdep hI
    have hi : i < 18 := by rw [← hsz]; exact (Array.getElem?_eq_some_iff.1 ho).1
    have ev : ∀ (s : Nat), a.eval (.tmp s) = a.tmps.getD s undef := fun _ => rfl
    have evf : ∀ f, a.eval (.func f) = .func (.func f) #[] #[] := fun _ => rfl
    have evc : ∀ c : Value, a.eval (.const c) = c := fun _ => rfl
    have inj : ∀ d, saD i = some d → ∀ j d', j < 18 → saD j = some d' → j ≠ i → d' ≠ d := fun d hd j d' hj hd' hne e => hne (saD_inj j hj i hi (by rw [hd', hd, e]) (by rw [hd']; simp))
    have kp : ∀ s, (∀ i, i < 18 → saD i ≠ some s) → a.tmps.getD s undef = a0.tmps.getD s undef := hI.kept
    have hw : S w := hI.world
    have go : ∀ {d : Nat} {v : Value} {w' : World}, saD i = some d → Below w.heap.size w w' → S w' → saF xk yk ob b b2 k lk ck lk2 ck2 xa xb N i v w' → Inv 18 saD a0 (fun _ _ w => S w) (fun _ => saF xk yk ob b b2 k lk ck lk2 ck2 xa xb N) (fun j => l j || j == i) (a.put (some d) v) w' := by
      intro d v w' hD hb hS' hF
      exact hI.put hi hD (Nat.lt_of_lt_of_le (saD_lt i hi d hD) hs) (inj d hD) hS' hF (fun j u _ _ _ hf => saF_below hf hb)
    rcases (show i = 0 ∨ i = 1 ∨ i = 2 ∨ i = 3 ∨ i = 4 ∨ i = 5 ∨ i = 6 ∨ i = 7 ∨ i = 8 ∨ i = 9 ∨ i = 10 ∨ i = 11 ∨ i = 12 ∨ i = 13 ∨ i = 14 ∨ i = 15 ∨ i = 16 ∨ i = 17 by omega) with rfl | rfl | rfl | rfl | rfl | rfl | rfl | rfl | rfl | rfl | rfl | rfl | rfl | rfl | rfl | rfl | rfl | rfl
    · obtain ⟨o', e1, e2, e3, e4, e5⟩ := o0
      obtain rfl := Option.some.inj (ho.symm.trans e1)
      have dp := dep_of' e5 hdep
      have U16 : a.tmps.getD 16 undef = .slice (some xa) lk ck := (kp 16 (by decide)).trans u16
      exact wpOp_value (v := .slice (some xa) lk ck) (w' := w) ho e4 (by simp [execOp, e3, ev, evc, U16]) (by rw [e2]; exact go rfl (Below.refl _ _) hw rfl)
    · obtain ⟨o', e1, e2, e3, e4, e5⟩ := o1
      obtain rfl := Option.some.inj (ho.symm.trans e1)
      have dp := dep_of' e5 hdep
      have U20 : a.tmps.getD 20 undef = .int .i64 (k : Nat) := (kp 20 (by decide)).trans u20
      exact wpOp_value (v := .int .i64 (k : Nat)) (w' := w) ho e4 (by simp [execOp, e3, ev, evc, U20]) (by rw [e2]; exact go rfl (Below.refl _ _) hw rfl)
    · obtain ⟨o', e1, e2, e3, e4, e5⟩ := o2
      obtain rfl := Option.some.inj (ho.symm.trans e1)
      have dp := dep_of' e5 hdep
      have V0 : a.tmps.getD 183 undef = .slice (some xa) lk ck := hI.val 0 183 (by decide) rfl (dp 0 (by decide))
      have V1 : a.tmps.getD 184 undef = .int .i64 (k : Nat) := hI.val 1 184 (by decide) rfl (dp 1 (by decide))
      exact wpOp_value (v := .pointer (some (xa.add k))) (w' := w) ho e4 (by simp [execOp, e3, ev, evc, V0, V1, x2 w]) (by rw [e2]; exact go rfl (Below.refl _ _) hw rfl)
    · obtain ⟨o', e1, e2, e3, e4, e5⟩ := o3
      obtain rfl := Option.some.inj (ho.symm.trans e1)
      have dp := dep_of' e5 hdep
      have V2 : a.tmps.getD 185 undef = .pointer (some (xa.add k)) := hI.val 2 185 (by decide) rfl (dp 2 (by decide))
      exact wpOp_value (v := .pointer (some ⟨xk, 0, none⟩)) (w' := w) ho e4 (by simp [execOp, e3, ev, evc, V2, x3 w hw]) (by rw [e2]; exact go rfl (Below.refl _ _) hw rfl)
    · obtain ⟨o', e1, e2, e3, e4, e5⟩ := o4
      obtain rfl := Option.some.inj (ho.symm.trans e1)
      have dp := dep_of' e5 hdep
      have U17 : a.tmps.getD 17 undef = .slice (some xb) lk2 ck2 := (kp 17 (by decide)).trans u17
      exact wpOp_value (v := .slice (some xb) lk2 ck2) (w' := w) ho e4 (by simp [execOp, e3, ev, evc, U17]) (by rw [e2]; exact go rfl (Below.refl _ _) hw rfl)
    · obtain ⟨o', e1, e2, e3, e4, e5⟩ := o5
      obtain rfl := Option.some.inj (ho.symm.trans e1)
      have dp := dep_of' e5 hdep
      have U20 : a.tmps.getD 20 undef = .int .i64 (k : Nat) := (kp 20 (by decide)).trans u20
      exact wpOp_value (v := .int .i64 (k : Nat)) (w' := w) ho e4 (by simp [execOp, e3, ev, evc, U20]) (by rw [e2]; exact go rfl (Below.refl _ _) hw rfl)
    · obtain ⟨o', e1, e2, e3, e4, e5⟩ := o6
      obtain rfl := Option.some.inj (ho.symm.trans e1)
      have dp := dep_of' e5 hdep
      have V4 : a.tmps.getD 187 undef = .slice (some xb) lk2 ck2 := hI.val 4 187 (by decide) rfl (dp 4 (by decide))
      have V5 : a.tmps.getD 188 undef = .int .i64 (k : Nat) := hI.val 5 188 (by decide) rfl (dp 5 (by decide))
      exact wpOp_value (v := .pointer (some (xb.add k))) (w' := w) ho e4 (by simp [execOp, e3, ev, evc, V4, V5, x6 w]) (by rw [e2]; exact go rfl (Below.refl _ _) hw rfl)
    · obtain ⟨o', e1, e2, e3, e4, e5⟩ := o7
      obtain rfl := Option.some.inj (ho.symm.trans e1)
      have dp := dep_of' e5 hdep
      have V6 : a.tmps.getD 189 undef = .pointer (some (xb.add k)) := hI.val 6 189 (by decide) rfl (dp 6 (by decide))
      exact wpOp_value (v := .pointer (some ⟨yk, 0, none⟩)) (w' := w) ho e4 (by simp [execOp, e3, ev, evc, V6, x7 w hw]) (by rw [e2]; exact go rfl (Below.refl _ _) hw rfl)
    · obtain ⟨o', e1, e2, e3, e4, e5⟩ := o8
      obtain rfl := Option.some.inj (ho.symm.trans e1)
      have dp := dep_of' e5 hdep
      have U19 : a.tmps.getD 19 undef = .pointer (some ⟨ob, 0, none⟩) := (kp 19 (by decide)).trans u19
      exact wpOp_value (v := .pointer (some ⟨ob, 3, none⟩)) (w' := w) ho e4 (by simp [execOp, e3, ev, evc, U19, x8 w]) (by rw [e2]; exact go rfl (Below.refl _ _) hw rfl)
    · obtain ⟨o', e1, e2, e3, e4, e5⟩ := o9
      obtain rfl := Option.some.inj (ho.symm.trans e1)
      have dp := dep_of' e5 hdep
      have V8 : a.tmps.getD 191 undef = .pointer (some ⟨ob, 3, none⟩) := hI.val 8 191 (by decide) rfl (dp 8 (by decide))
      exact wpOp_value (v := .int .i64 N) (w' := w) ho e4 (by simp [execOp, e3, ev, evc, V8, x9 w hw]) (by rw [e2]; exact go rfl (Below.refl _ _) hw rfl)
    · obtain ⟨o', e1, e2, e3, e4, e5⟩ := o10
      obtain rfl := Option.some.inj (ho.symm.trans e1)
      have dp := dep_of' e5 hdep
      have V3 : a.tmps.getD 186 undef = .pointer (some ⟨xk, 0, none⟩) := hI.val 3 186 (by decide) rfl (dp 3 (by decide))
      have V7 : a.tmps.getD 190 undef = .pointer (some ⟨yk, 0, none⟩) := hI.val 7 190 (by decide) rfl (dp 7 (by decide))
      have V9 : a.tmps.getD 192 undef = .int .i64 N := hI.val 9 192 (by decide) rfl (dp 9 (by decide))
      refine wpOp_call (f := 20) (args := #[.pointer (some ⟨xk, 0, none⟩), .pointer (some ⟨yk, 0, none⟩), .int .i64 N]) ho e4 (by simp [execOp, e3, resolve, invoke, Deferred.ofValue, r20, ev, evf, evc, V3, V7, V9]) ((x10 w hw).mono ?_)
      rintro e W' ⟨rfl, hb5, hs5⟩
      refine ⟨_, rfl, ?_⟩
      rw [e2]
      exact go rfl hb5 hs5 rfl
    · obtain ⟨o', e1, e2, e3, e4, e5⟩ := o11
      obtain rfl := Option.some.inj (ho.symm.trans e1)
      have dp := dep_of' e5 hdep
      have V10 : a.tmps.getD 193 undef = .bool true := hI.val 10 193 (by decide) rfl (dp 10 (by decide))
      exact wpOp_value (v := .bool false) (w' := w) ho e4 (by simp [execOp, e3, ev, evc, V10, Op.unary]) (by rw [e2]; exact go rfl (Below.refl _ _) hw rfl)
    · obtain ⟨o', e1, e2, e3, e4, e5⟩ := o12
      obtain rfl := Option.some.inj (ho.symm.trans e1)
      have dp := dep_of' e5 hdep
      have V11 : a.tmps.getD 194 undef = .bool false := hI.val 11 194 (by decide) rfl (dp 11 (by decide))
      exact wpOp_value (v := .bool false) (w' := w) ho e4 (by simp [execOp, e3, ev, evc, V11]) (by rw [e2]; exact go rfl (Below.refl _ _) hw rfl)
    · obtain ⟨o', e1, e2, e3, e4, e5⟩ := o13
      obtain rfl := Option.some.inj (ho.symm.trans e1)
      have dp := dep_of' e5 hdep
      have V12 : a.tmps.getD 195 undef = .bool false := hI.val 12 195 (by decide) rfl (dp 12 (by decide))
      have U9 : a.tmps.getD 9 undef = .pointer (some ⟨b, 0, none⟩) := (kp 9 (by decide)).trans u9
      obtain ⟨og, g1, g2, -, -, -⟩ := o12
      exact wpOp_value_b (v := .pointer (some ⟨b, 0, none⟩)) (w' := w) ho e4 g1 g2 (by rw [hI.size]; exact Nat.lt_of_lt_of_le (by decide) hs) V12 (by simp [execOp, e3, ev, evc, V12, U9]) (by rw [e2]; exact go rfl (Below.refl _ _) hw rfl)
    · obtain ⟨o', e1, e2, e3, e4, e5⟩ := o14
      obtain rfl := Option.some.inj (ho.symm.trans e1)
      have dp := dep_of' e5 hdep
      have V12 : a.tmps.getD 195 undef = .bool false := hI.val 12 195 (by decide) rfl (dp 12 (by decide))
      have U11 : a.tmps.getD 11 undef = .pointer (some ⟨b2, 0, none⟩) := (kp 11 (by decide)).trans u11
      obtain ⟨og, g1, g2, -, -, -⟩ := o12
      exact wpOp_value_b (v := .pointer (some ⟨b2, 0, none⟩)) (w' := w) ho e4 g1 g2 (by rw [hI.size]; exact Nat.lt_of_lt_of_le (by decide) hs) V12 (by simp [execOp, e3, ev, evc, V12, U11]) (by rw [e2]; exact go rfl (Below.refl _ _) hw rfl)
    · obtain ⟨o', e1, e2, e3, e4, e5⟩ := o15
      obtain rfl := Option.some.inj (ho.symm.trans e1)
      have dp := dep_of' e5 hdep
      have V12 : a.tmps.getD 195 undef = .bool false := hI.val 12 195 (by decide) rfl (dp 12 (by decide))
      have V13 : a.tmps.getD 196 undef = .pointer (some ⟨b, 0, none⟩) := hI.val 13 196 (by decide) rfl (dp 13 (by decide))
      have V14 : a.tmps.getD 197 undef = .pointer (some ⟨b2, 0, none⟩) := hI.val 14 197 (by decide) rfl (dp 14 (by decide))
      obtain ⟨og, g1, g2, -, -, -⟩ := o12
      refine wpOp_call_b (f := 21) (args := #[.pointer (some ⟨b, 0, none⟩), .pointer (some ⟨b2, 0, none⟩)]) ho e4 g1 g2 (by rw [hI.size]; exact Nat.lt_of_lt_of_le (by decide) hs) V12 (by simp [execOp, e3, resolve, invoke, Deferred.ofValue, r21, ev, evf, evc, V12, V13, V14]) ((x15 w hw).mono ?_)
      rintro e W' ⟨rfl, hb5, hs5⟩
      refine ⟨_, rfl, ?_⟩
      rw [e2]
      exact go rfl hb5 hs5 rfl
    · obtain ⟨o', e1, e2, e3, e4, e5⟩ := o16
      obtain rfl := Option.some.inj (ho.symm.trans e1)
      have dp := dep_of' e5 hdep
      have V12 : a.tmps.getD 195 undef = .bool false := hI.val 12 195 (by decide) rfl (dp 12 (by decide))
      have V15 : a.tmps.getD 198 undef = .bool true := hI.val 15 198 (by decide) rfl (dp 15 (by decide))
      obtain ⟨og, g1, g2, -, -, -⟩ := o12
      exact wpOp_value_b (v := .bool false) (w' := w) ho e4 g1 g2 (by rw [hI.size]; exact Nat.lt_of_lt_of_le (by decide) hs) V12 (by simp [execOp, e3, ev, evc, V12, V15, Op.unary]) (by rw [e2]; exact go rfl (Below.refl _ _) hw rfl)
    · obtain ⟨o', e1, e2, e3, e4, e5⟩ := o17
      obtain rfl := Option.some.inj (ho.symm.trans e1)
      have dp := dep_of' e5 hdep
      have V12 : a.tmps.getD 195 undef = .bool false := hI.val 12 195 (by decide) rfl (dp 12 (by decide))
      have V16 : a.tmps.getD 199 undef = .bool false := hI.val 16 199 (by decide) rfl (dp 16 (by decide))
      exact wpOp_value (v := .bool false) (w' := w) ho e4 (by simp [execOp, e3, ev, evc, V12, V16, asBool]) (by rw [e2]; exact go rfl (Below.refl _ _) hw rfl)
  · intro l a w hall hI
    have all : ∀ j, j < 18 → l j = true := fun j hj => hall j (by rw [hsz]; exact hj)
    exact fin a w hI.size hI.defers hI.kept hI.world (fun i d hi hD => hI.val i d hi hD (all i hi))

def sbD (i : Nat) : Option Nat := match i with | 0 => some 218 | 1 => some 219 | 2 => some 220 | 3 => some 221 | 4 => some 222 | 5 => some 223 | 6 => some 224 | 7 => some 225 | 8 => some 226 | 9 => some 227 | 10 => some 228 | _ => none
theorem sbD_inj : ∀ i, i < 11 → ∀ j, j < 11 → sbD i = sbD j → sbD i ≠ none → i = j := by decide
theorem sbD_lt : ∀ i, i < 11 → ∀ d, sbD i = some d → d < 229 := by
  intro i hi d h
  have : ∀ i, i < 11 → (sbD i).all (fun d => decide (d < 229)) = true := by decide
  have := this i hi
  rw [h] at this
  simpa using this
def sbF (xk yk k lk ck lk2 ck2 : Nat) (xa xb : Addr) (N : Int) (i : Nat) (q : Value) (w : World) : Prop := match i with
  | 0 => q = .slice (some xa) lk ck
  | 1 => q = .int .i64 (k : Nat)
  | 2 => q = .pointer (some (xa.add k))
  | 3 => q = .pointer (some ⟨xk, 0, none⟩)
  | 4 => q = .slice (some xb) lk2 ck2
  | 5 => q = .int .i64 (k : Nat)
  | 6 => q = .pointer (some (xb.add k))
  | 7 => q = .pointer (some ⟨yk, 0, none⟩)
  | 8 => q = .int .i64 N
  | 9 => q = .bool true
  | 10 => q = .bool false
  | _ => True
theorem sbF_below {xk yk k lk ck lk2 ck2 : Nat} {xa xb : Addr} {N : Int} {i : Nat} {q : Value} {w w' : World} (h : sbF xk yk k lk ck lk2 ck2 xa xb N i q w) (hb : Below w.heap.size w w') : sbF xk yk k lk ck lk2 ck2 xa xb N i q w' := by
  unfold sbF at h ⊢
  split
  · exact h
  · exact h
  · exact h
  · exact h
  · exact h
  · exact h
  · exact h
  · exact h
  · exact h
  · exact h
  · exact h
  · trivial

set_option maxHeartbeats 8000000 in
theorem sb_region {id : Nat} {ops : Array Oper} {Q : Exit → Act → World → Prop} {a0 : Act} {w0 : World} (xk yk k lk ck lk2 ck2 : Nat) (xa xb : Addr) (N : Int) (S : World → Prop) (hlow : lowB ops = true) (hsz : ops.size = 11)
    (o0 : OpIn ops 0 (some 218) (.move (.tmp 16)) none []) (o1 : OpIn ops 1 (some 219) (.move (.tmp 23)) none []) (o2 : OpIn ops 2 (some 220) (.indexAddr 37 (.tmp 218) (.tmp 219)) none [0, 1]) (o3 : OpIn ops 3 (some 221) (.load 31 (.tmp 220)) none [2]) (o4 : OpIn ops 4 (some 222) (.move (.tmp 17)) none []) (o5 : OpIn ops 5 (some 223) (.move (.tmp 23)) none []) (o6 : OpIn ops 6 (some 224) (.indexAddr 38 (.tmp 222) (.tmp 223)) none [4, 5]) (o7 : OpIn ops 7 (some 225) (.load 34 (.tmp 224)) none [6]) (o8 : OpIn ops 8 (some 226) (.move (.tmp 24)) none []) (o9 : OpIn ops 9 (some 227) (.call { callee := .value (.func 20), args := #[.tmp 221, .tmp 225, .tmp 226], argTypes := #[31, 34, 3] }) none [3, 7, 8]) (o10 : OpIn ops 10 (some 228) (.unOp .not 4 (.tmp 227)) none [9])
    (hS : S w0.drew)
    (x2 : ∀ w, (Instr.indexAt 37 (.slice (some xa) lk ck) (.int .i64 (k : Nat))).run Try.prog w = .ok (.pointer (some (xa.add k))) w)
    (x3 : ∀ w, S w → (Instr.loadAt 31 (.pointer (some (xa.add k)))).run Try.prog w = .ok (.pointer (some ⟨xk, 0, none⟩)) w)
    (x6 : ∀ w, (Instr.indexAt 38 (.slice (some xb) lk2 ck2) (.int .i64 (k : Nat))).run Try.prog w = .ok (.pointer (some (xb.add k))) w)
    (x7 : ∀ w, S w → (Instr.loadAt 34 (.pointer (some (xb.add k)))).run Try.prog w = .ok (.pointer (some ⟨yk, 0, none⟩)) w)
    (x9 : ∀ w, S w → Calls Try.prog 20 #[.pointer (some ⟨xk, 0, none⟩), .pointer (some ⟨yk, 0, none⟩), .int .i64 N] w fun e w' => e = .returned (.bool true) ∧ Below w.heap.size w w' ∧ S w')
    (u16 : a0.tmps.getD 16 undef = .slice (some xa) lk ck)
    (u17 : a0.tmps.getD 17 undef = .slice (some xb) lk2 ck2)
    (u23 : a0.tmps.getD 23 undef = .int .i64 (k : Nat))
    (u24 : a0.tmps.getD 24 undef = .int .i64 N)
    (hs : 229 ≤ a0.tmps.size)
    (fin : ∀ a w, a.tmps.size = a0.tmps.size → a.defers = a0.defers → (∀ s, (∀ i, i < 11 → sbD i ≠ some s) → a.tmps.getD s undef = a0.tmps.getD s undef) → S w → (∀ i d, i < 11 → sbD i = some d → sbF xk yk k lk ck lk2 ck2 xa xb N i (a.tmps.getD d undef) w) → Q .normal a w) : (Code.region id ops true).wp Try.prog Q a0 w0 := by
  have r20 : ∀ args w, (callFunc 20 args).run Try.prog w = .ok (.enter 20 args) w := enters_of Try.func20 (by kernel_rfl) rfl
  refine wp_region_inv2 (by kernel_rfl) hlow (Inv 11 sbD a0 (fun _ _ w => S w) (fun _ => sbF xk yk k lk ck lk2 ck2 xa xb N)) (Inv.start hS) ?_ ?_
  · intro l i o a w ho hl hcl hdep hI
    have hi : i < 11 := by rw [← hsz]; exact (Array.getElem?_eq_some_iff.1 ho).1
    have ev : ∀ (s : Nat), a.eval (.tmp s) = a.tmps.getD s undef := fun _ => rfl
    have evf : ∀ f, a.eval (.func f) = .func (.func f) #[] #[] := fun _ => rfl
    have evc : ∀ c : Value, a.eval (.const c) = c := fun _ => rfl
    have inj : ∀ d, sbD i = some d → ∀ j d', j < 11 → sbD j = some d' → j ≠ i → d' ≠ d := fun d hd j d' hj hd' hne e => hne (sbD_inj j hj i hi (by rw [hd', hd, e]) (by rw [hd']; simp))
    have kp : ∀ s, (∀ i, i < 11 → sbD i ≠ some s) → a.tmps.getD s undef = a0.tmps.getD s undef := hI.kept
    have hw : S w := hI.world
    have go : ∀ {d : Nat} {v : Value} {w' : World}, sbD i = some d → Below w.heap.size w w' → S w' → sbF xk yk k lk ck lk2 ck2 xa xb N i v w' → Inv 11 sbD a0 (fun _ _ w => S w) (fun _ => sbF xk yk k lk ck lk2 ck2 xa xb N) (fun j => l j || j == i) (a.put (some d) v) w' := by
      intro d v w' hD hb hS' hF
      exact hI.put hi hD (Nat.lt_of_lt_of_le (sbD_lt i hi d hD) hs) (inj d hD) hS' hF (fun j u _ _ _ hf => sbF_below hf hb)
    rcases (show i = 0 ∨ i = 1 ∨ i = 2 ∨ i = 3 ∨ i = 4 ∨ i = 5 ∨ i = 6 ∨ i = 7 ∨ i = 8 ∨ i = 9 ∨ i = 10 by omega) with rfl | rfl | rfl | rfl | rfl | rfl | rfl | rfl | rfl | rfl | rfl
    · obtain ⟨o', e1, e2, e3, e4, e5⟩ := o0
      obtain rfl := Option.some.inj (ho.symm.trans e1)
      have dp := dep_of' e5 hdep
      have U16 : a.tmps.getD 16 undef = .slice (some xa) lk ck := (kp 16 (by decide)).trans u16
      exact wpOp_value (v := .slice (some xa) lk ck) (w' := w) ho e4 (by simp [execOp, e3, ev, evc, U16]) (by rw [e2]; exact go rfl (Below.refl _ _) hw rfl)
    · obtain ⟨o', e1, e2, e3, e4, e5⟩ := o1
      obtain rfl := Option.some.inj (ho.symm.trans e1)
      have dp := dep_of' e5 hdep
      have U23 : a.tmps.getD 23 undef = .int .i64 (k : Nat) := (kp 23 (by decide)).trans u23
      exact wpOp_value (v := .int .i64 (k : Nat)) (w' := w) ho e4 (by simp [execOp, e3, ev, evc, U23]) (by rw [e2]; exact go rfl (Below.refl _ _) hw rfl)
    · obtain ⟨o', e1, e2, e3, e4, e5⟩ := o2
      obtain rfl := Option.some.inj (ho.symm.trans e1)
      have dp := dep_of' e5 hdep
      have V0 : a.tmps.getD 218 undef = .slice (some xa) lk ck := hI.val 0 218 (by decide) rfl (dp 0 (by decide))
      have V1 : a.tmps.getD 219 undef = .int .i64 (k : Nat) := hI.val 1 219 (by decide) rfl (dp 1 (by decide))
      exact wpOp_value (v := .pointer (some (xa.add k))) (w' := w) ho e4 (by simp [execOp, e3, ev, evc, V0, V1, x2 w]) (by rw [e2]; exact go rfl (Below.refl _ _) hw rfl)
    · obtain ⟨o', e1, e2, e3, e4, e5⟩ := o3
      obtain rfl := Option.some.inj (ho.symm.trans e1)
      have dp := dep_of' e5 hdep
      have V2 : a.tmps.getD 220 undef = .pointer (some (xa.add k)) := hI.val 2 220 (by decide) rfl (dp 2 (by decide))
      exact wpOp_value (v := .pointer (some ⟨xk, 0, none⟩)) (w' := w) ho e4 (by simp [execOp, e3, ev, evc, V2, x3 w hw]) (by rw [e2]; exact go rfl (Below.refl _ _) hw rfl)
    · obtain ⟨o', e1, e2, e3, e4, e5⟩ := o4
      obtain rfl := Option.some.inj (ho.symm.trans e1)
      have dp := dep_of' e5 hdep
      have U17 : a.tmps.getD 17 undef = .slice (some xb) lk2 ck2 := (kp 17 (by decide)).trans u17
      exact wpOp_value (v := .slice (some xb) lk2 ck2) (w' := w) ho e4 (by simp [execOp, e3, ev, evc, U17]) (by rw [e2]; exact go rfl (Below.refl _ _) hw rfl)
    · obtain ⟨o', e1, e2, e3, e4, e5⟩ := o5
      obtain rfl := Option.some.inj (ho.symm.trans e1)
      have dp := dep_of' e5 hdep
      have U23 : a.tmps.getD 23 undef = .int .i64 (k : Nat) := (kp 23 (by decide)).trans u23
      exact wpOp_value (v := .int .i64 (k : Nat)) (w' := w) ho e4 (by simp [execOp, e3, ev, evc, U23]) (by rw [e2]; exact go rfl (Below.refl _ _) hw rfl)
    · obtain ⟨o', e1, e2, e3, e4, e5⟩ := o6
      obtain rfl := Option.some.inj (ho.symm.trans e1)
      have dp := dep_of' e5 hdep
      have V4 : a.tmps.getD 222 undef = .slice (some xb) lk2 ck2 := hI.val 4 222 (by decide) rfl (dp 4 (by decide))
      have V5 : a.tmps.getD 223 undef = .int .i64 (k : Nat) := hI.val 5 223 (by decide) rfl (dp 5 (by decide))
      exact wpOp_value (v := .pointer (some (xb.add k))) (w' := w) ho e4 (by simp [execOp, e3, ev, evc, V4, V5, x6 w]) (by rw [e2]; exact go rfl (Below.refl _ _) hw rfl)
    · obtain ⟨o', e1, e2, e3, e4, e5⟩ := o7
      obtain rfl := Option.some.inj (ho.symm.trans e1)
      have dp := dep_of' e5 hdep
      have V6 : a.tmps.getD 224 undef = .pointer (some (xb.add k)) := hI.val 6 224 (by decide) rfl (dp 6 (by decide))
      exact wpOp_value (v := .pointer (some ⟨yk, 0, none⟩)) (w' := w) ho e4 (by simp [execOp, e3, ev, evc, V6, x7 w hw]) (by rw [e2]; exact go rfl (Below.refl _ _) hw rfl)
    · obtain ⟨o', e1, e2, e3, e4, e5⟩ := o8
      obtain rfl := Option.some.inj (ho.symm.trans e1)
      have dp := dep_of' e5 hdep
      have U24 : a.tmps.getD 24 undef = .int .i64 N := (kp 24 (by decide)).trans u24
      exact wpOp_value (v := .int .i64 N) (w' := w) ho e4 (by simp [execOp, e3, ev, evc, U24]) (by rw [e2]; exact go rfl (Below.refl _ _) hw rfl)
    · obtain ⟨o', e1, e2, e3, e4, e5⟩ := o9
      obtain rfl := Option.some.inj (ho.symm.trans e1)
      have dp := dep_of' e5 hdep
      have V3 : a.tmps.getD 221 undef = .pointer (some ⟨xk, 0, none⟩) := hI.val 3 221 (by decide) rfl (dp 3 (by decide))
      have V7 : a.tmps.getD 225 undef = .pointer (some ⟨yk, 0, none⟩) := hI.val 7 225 (by decide) rfl (dp 7 (by decide))
      have V8 : a.tmps.getD 226 undef = .int .i64 N := hI.val 8 226 (by decide) rfl (dp 8 (by decide))
      refine wpOp_call (f := 20) (args := #[.pointer (some ⟨xk, 0, none⟩), .pointer (some ⟨yk, 0, none⟩), .int .i64 N]) ho e4 (by simp [execOp, e3, resolve, invoke, Deferred.ofValue, r20, ev, evf, evc, V3, V7, V8]) ((x9 w hw).mono ?_)
      rintro e W' ⟨rfl, hb5, hs5⟩
      refine ⟨_, rfl, ?_⟩
      rw [e2]
      exact go rfl hb5 hs5 rfl
    · obtain ⟨o', e1, e2, e3, e4, e5⟩ := o10
      obtain rfl := Option.some.inj (ho.symm.trans e1)
      have dp := dep_of' e5 hdep
      have V9 : a.tmps.getD 227 undef = .bool true := hI.val 9 227 (by decide) rfl (dp 9 (by decide))
      exact wpOp_value (v := .bool false) (w' := w) ho e4 (by simp [execOp, e3, ev, evc, V9, Op.unary]) (by rw [e2]; exact go rfl (Below.refl _ _) hw rfl)
  · intro l a w hall hI
    have all : ∀ j, j < 11 → l j = true := fun j hj => hall j (by rw [hsz]; exact hj)
    exact fin a w hI.size hI.defers hI.kept hI.world (fun i d hi hD => hI.val i d hi hD (all i hi))
end

end Go.Proofs.Ytgjjeggopeppfaa
