/- The two regions in which keys and values are parted. -/
import Derived.Test.YthbddbipmoflfaaRows
import Derived.Test.YthbddbipmoflfaaView
import Derived.Test.YthbddbipmoflfaaOwn
import Derived.Test.YthbddbipmoflfaaWhere
import Derived.Test.YthbddbipmoflfaaMean
import Derived.Test.YthbddbipmoflfaaGrids
import Derived.Test.YthbddbipmoflfaaInvIn
import Derived.Test.YthbddbipmoflfaaAtReg
import Derived.Test.YthbddbipmoflfaaAtTwo
import Derived.WalkKit
import Derived.ProofKit
import Derived.OpenShut
import Derived.Below
import Derived.WalkLawsBesides
import Derived.Deep.QuietTactic
import Derived.BigQuiet
import Derived.Orders
import Derived.Shelf.Abstract
namespace Go.Proofs.Ythbddbipmoflfaa
open Go.ChangeShapes Go.WideShapes Go.ChangeAt Go.RowKit
set_option linter.unusedVariables false
set_option linter.unusedSimpArgs false

def pkD (i : Nat) : Option Nat := match i with | 0 => some 69 | 1 => some 70 | 2 => some 71 | 3 => some 72 | 4 => some 73 | 5 => some 74 | 6 => some 75 | 7 => some 76 | 8 => some 77 | 9 => some 78 | 10 => some 79 | 11 => some 80 | 12 => some 81 | 13 => some 82 | 14 => some 83 | 15 => some 84 | 16 => some 85 | 17 => some 86 | 18 => some 87 | 19 => some 88 | 20 => some 8 | 21 => some 9 | _ => none
theorem pkD_inj : ∀ i, i < 22 → ∀ j, j < 22 → pkD i = pkD j → pkD i ≠ none → i = j := by decide
theorem pkD_lt : ∀ i, i < 22 → ∀ d, pkD i = some d → d < 170 := by
  intro i hi d h
  have : ∀ i, i < 22 → (pkD i).all (fun d => decide (d < 170)) = true := by decide
  have := this i hi
  rw [h] at this
  simpa using this
def pkF (x y : Addr) (n c k N h C : Nat) (u1 u2 : Value) (i : Nat) (q : Value) (w : World) : Prop := match i with
  | 0 => q = u1
  | 1 => q = .slice (some x) n c
  | 2 => q = .int .i64 k
  | 3 => q = .pointer (some (x.add k))
  | 4 => q = .slice (some y) N C
  | 5 => q = .int .i64 N
  | 6 => q = .int .i64 h
  | 7 => q = .slice (some y) h C
  | 8 => True
  | 9 => True
  | 10 => q = u2
  | 11 => q = .slice (some x) n c
  | 12 => q = .int .i64 k
  | 13 => q = .pointer (some (x.add k))
  | 14 => q = .slice (some y) N C
  | 15 => q = .int .i64 N
  | 16 => q = .int .i64 h
  | 17 => q = .slice (some (y.add h)) h (C - h)
  | 18 => True
  | 19 => True
  | 20 => True
  | 21 => True
  | _ => True

set_option maxHeartbeats 8000000 in
theorem pk_region {id : Nat} {ops : Array Oper} {Q : Exit → Act → World → Prop} {a0 : Act} {w0 : World} (x y : Addr) (n c k N h C : Nat) (u1 u2 : Value) (B : Nat) (W0 : World) (n1 n2 : Nat) (xs1 xs2 : List Value) (hlow : lowB ops = true) (hsz : ops.size = 22)
    (o0 : OpIn ops 0 (some 69) (.move (.tmp 8)) none []) (o1 : OpIn ops 1 (some 70) (.move (.tmp 1)) none []) (o2 : OpIn ops 2 (some 71) (.move (.tmp 12)) none []) (o3 : OpIn ops 3 (some 72) (.indexAddr 23 (.tmp 70) (.tmp 71)) none [1, 2]) (o4 : OpIn ops 4 (some 73) (.load 22 (.tmp 72)) none [3]) (o5 : OpIn ops 5 (some 74) (.move (.tmp 7)) none []) (o6 : OpIn ops 6 (some 75) (.binOp .quo 3 (.tmp 74) (.const (.int .i64 2)) 3) none [5]) (o7 : OpIn ops 7 (some 76) (.slice 22 (.tmp 73) none (some (.tmp 75)) none) none [4, 6]) (o8 : OpIn ops 8 (some 77) (.buildSlice 23 1 #[(0, .tmp 76)]) none [7]) (o9 : OpIn ops 9 (some 78) (.call { callee := .builtin .append, args := #[.tmp 69, .tmp 77], argTypes := #[23, 23] }) none [0, 8]) (o10 : OpIn ops 10 (some 79) (.move (.tmp 9)) none []) (o11 : OpIn ops 11 (some 80) (.move (.tmp 1)) none []) (o12 : OpIn ops 12 (some 81) (.move (.tmp 12)) none []) (o13 : OpIn ops 13 (some 82) (.indexAddr 23 (.tmp 80) (.tmp 81)) none [11, 12]) (o14 : OpIn ops 14 (some 83) (.load 22 (.tmp 82)) none [13]) (o15 : OpIn ops 15 (some 84) (.move (.tmp 7)) none []) (o16 : OpIn ops 16 (some 85) (.binOp .quo 3 (.tmp 84) (.const (.int .i64 2)) 3) none [15]) (o17 : OpIn ops 17 (some 86) (.slice 22 (.tmp 83) (some (.tmp 85)) none none) none [14, 16]) (o18 : OpIn ops 18 (some 87) (.buildSlice 23 1 #[(0, .tmp 86)]) none [17]) (o19 : OpIn ops 19 (some 88) (.call { callee := .builtin .append, args := #[.tmp 79, .tmp 87], argTypes := #[23, 23] }) none [10, 18]) (o20 : OpIn ops 20 (some 8) (.assign (.tmp 78)) none [0, 9]) (o21 : OpIn ops 21 (some 9) (.assign (.tmp 88)) none [10, 19])
    (hW : Below B W0 w0) (hB : B ≤ w0.heap.size) (hT : Two B w0 u1 n1 xs1 u2 n2 xs2) (hn1 : (n1 + 1) * 24 ≤ 140737488355328) (hn2 : (n2 + 1) * 24 ≤ 140737488355328)
    (x3 : ∀ w, (Instr.indexAt 23 (.slice (some x) n c) (.int .i64 k)).run Try.prog w = .ok (.pointer (some (x.add k))) w)
    (x4 : ∀ w, Below B W0 w → (Instr.loadAt 22 (.pointer (some (x.add k)))).run Try.prog w = .ok (.slice (some y) N C) w)
    (x6 : ∀ w, (binOp .quo 3 (.int .i64 N) (.int .i64 2)).run Try.prog w = .ok (.int .i64 h) w)
    (x7 : ∀ w, (Instr.sliceAt 22 (.slice (some y) N C) none (some (.int .i64 h)) none).run Try.prog w = .ok (.slice (some y) h C) w)
    (x13 : ∀ w, (Instr.indexAt 23 (.slice (some x) n c) (.int .i64 k)).run Try.prog w = .ok (.pointer (some (x.add k))) w)
    (x14 : ∀ w, Below B W0 w → (Instr.loadAt 22 (.pointer (some (x.add k)))).run Try.prog w = .ok (.slice (some y) N C) w)
    (x16 : ∀ w, (binOp .quo 3 (.int .i64 N) (.int .i64 2)).run Try.prog w = .ok (.int .i64 h) w)
    (x17 : ∀ w, (Instr.sliceAt 22 (.slice (some y) N C) (some (.int .i64 h)) none none).run Try.prog w = .ok (.slice (some (y.add h)) h (C - h)) w)
    (u_1 : a0.tmps.getD 1 undef = .slice (some x) n c)
    (u_7 : a0.tmps.getD 7 undef = .int .i64 N)
    (u_12 : a0.tmps.getD 12 undef = .int .i64 k)
    (ur1 : a0.tmps.getD 8 undef = u1)
    (ur2 : a0.tmps.getD 9 undef = u2)
    (hs : 170 ≤ a0.tmps.size)
    (fin : ∀ a w v1 v2, a.tmps.size = a0.tmps.size → a.defers = a0.defers → (∀ s, (∀ i, i < 22 → pkD i ≠ some s) → a.tmps.getD s undef = a0.tmps.getD s undef) → Below B W0 w → Beside w0 w u1 u2 → Stays w0 u1 v1 → Stays w0 u2 v2 → Two B w v1 (n1 + 1) (xs1 ++ [.slice (some y) h C]) v2 (n2 + 1) (xs2 ++ [.slice (some (y.add h)) h (C - h)]) → a.tmps.getD 8 undef = v1 → a.tmps.getD 9 undef = v2 → Q .normal a w) : (Code.region id ops true).wp Try.prog Q a0 w0 := by
  refine wp_region_inv2 (by kernel_rfl) hlow (Inv 22 pkD a0 (TwoR 9 8 20 78 77 8 19 18 21 88 87 9 B W0 u1 n1 xs1 (.slice (some y) h C) u2 n2 xs2 (.slice (some (y.add h)) h (C - h)) w0) (fun _ => pkF x y n c k N h C u1 u2)) (Inv.start (TwoR.start ⟨hW.os, hW.tape, hW.output, hW.size, hW.block⟩ hB ⟨hT.o1, hT.o2, hT.ap⟩ ur1 ur2 ⟨Nat.le_refl _, fun _ _ _ _ => rfl⟩)) ?_ ?_
  · intro l i o a w ho hl hcl hdep hI
    have hi : i < 22 := by rw [← hsz]; exact (Array.getElem?_eq_some_iff.1 ho).1
    have ev : ∀ (s : Nat), a.eval (.tmp s) = a.tmps.getD s undef := fun _ => rfl
    have evc : ∀ c : Value, a.eval (.const c) = c := fun _ => rfl
    have inj : ∀ d, pkD i = some d → ∀ j d', j < 22 → pkD j = some d' → j ≠ i → d' ≠ d := fun d hd j d' hj hd' hne e => hne (pkD_inj j hj i hi (by rw [hd', hd, e]) (by rw [hd']; simp))
    have kp : ∀ s, (∀ i, i < 22 → pkD i ≠ some s) → a.tmps.getD s undef = a0.tmps.getD s undef := hI.kept
    have hw := hI.world
    have hbw : Below B W0 w := by obtain ⟨_, _, h, _⟩ := hw; exact h
    have hz : a.tmps.size = a0.tmps.size := hI.size
    have go : ∀ {d : Nat} {v : Value} {w' : World}, pkD i = some d → TwoR 9 8 20 78 77 8 19 18 21 88 87 9 B W0 u1 n1 xs1 (.slice (some y) h C) u2 n2 xs2 (.slice (some (y.add h)) h (C - h)) w0 (fun j => l j || j == i) (a.put (some d) v) w' → pkF x y n c k N h C u1 u2 i v w' → Inv 22 pkD a0 (TwoR 9 8 20 78 77 8 19 18 21 88 87 9 B W0 u1 n1 xs1 (.slice (some y) h C) u2 n2 xs2 (.slice (some (y.add h)) h (C - h)) w0) (fun _ => pkF x y n c k N h C u1 u2) (fun j => l j || j == i) (a.put (some d) v) w' := by
      intro d v w' hD hR hF
      exact hI.put hi hD (Nat.lt_of_lt_of_le (pkD_lt i hi d hD) hs) (inj d hD) hR hF (fun j u _ _ _ hf => hf)
    rcases (show i = 0 ∨ i = 1 ∨ i = 2 ∨ i = 3 ∨ i = 4 ∨ i = 5 ∨ i = 6 ∨ i = 7 ∨ i = 8 ∨ i = 9 ∨ i = 10 ∨ i = 11 ∨ i = 12 ∨ i = 13 ∨ i = 14 ∨ i = 15 ∨ i = 16 ∨ i = 17 ∨ i = 18 ∨ i = 19 ∨ i = 20 ∨ i = 21 by omega) with rfl | rfl | rfl | rfl | rfl | rfl | rfl | rfl | rfl | rfl | rfl | rfl | rfl | rfl | rfl | rfl | rfl | rfl | rfl | rfl | rfl | rfl
    · obtain ⟨o', e1, e2, e3, e4, e5⟩ := o0
      obtain rfl := Option.some.inj (ho.symm.trans e1)
      have dp := dep_of' e5 hdep
      have hd : 69 < a.tmps.size := by rw [hz]; exact Nat.lt_of_lt_of_le (by decide) hs
      have hE : l 20 = false := by
        cases h : l 20 with
        | false => rfl
        | true => have := hcl.dep' o20 h 0 (by decide); rw [hl] at this; cases this
      have U8 : a.tmps.getD 8 undef = u1 := hw.slot1 hE
      exact wpOp_value (v := u1) (w' := w) ho e4 (by simp [execOp, e3, ev, evc, U8]) (by rw [e2]; exact go rfl (hw.pure hd (by decide) (by decide) (by decide) (by decide)) rfl)
    · obtain ⟨o', e1, e2, e3, e4, e5⟩ := o1
      obtain rfl := Option.some.inj (ho.symm.trans e1)
      have dp := dep_of' e5 hdep
      have hd : 70 < a.tmps.size := by rw [hz]; exact Nat.lt_of_lt_of_le (by decide) hs
      have U1 : a.tmps.getD 1 undef = .slice (some x) n c := (kp 1 (by decide)).trans u_1
      exact wpOp_value (v := .slice (some x) n c) (w' := w) ho e4 (by simp [execOp, e3, ev, evc, U1]) (by rw [e2]; exact go rfl (hw.pure hd (by decide) (by decide) (by decide) (by decide)) rfl)
    · obtain ⟨o', e1, e2, e3, e4, e5⟩ := o2
      obtain rfl := Option.some.inj (ho.symm.trans e1)
      have dp := dep_of' e5 hdep
      have hd : 71 < a.tmps.size := by rw [hz]; exact Nat.lt_of_lt_of_le (by decide) hs
      have U12 : a.tmps.getD 12 undef = .int .i64 k := (kp 12 (by decide)).trans u_12
      exact wpOp_value (v := .int .i64 k) (w' := w) ho e4 (by simp [execOp, e3, ev, evc, U12]) (by rw [e2]; exact go rfl (hw.pure hd (by decide) (by decide) (by decide) (by decide)) rfl)
    · obtain ⟨o', e1, e2, e3, e4, e5⟩ := o3
      obtain rfl := Option.some.inj (ho.symm.trans e1)
      have dp := dep_of' e5 hdep
      have hd : 72 < a.tmps.size := by rw [hz]; exact Nat.lt_of_lt_of_le (by decide) hs
      have V1 : a.tmps.getD 70 undef = .slice (some x) n c := hI.val 1 70 (by decide) rfl (dp 1 (by decide))
      have V2 : a.tmps.getD 71 undef = .int .i64 k := hI.val 2 71 (by decide) rfl (dp 2 (by decide))
      exact wpOp_value (v := .pointer (some (x.add k))) (w' := w) ho e4 (by simp [execOp, e3, ev, evc, V1, V2, x3 w]) (by rw [e2]; exact go rfl (hw.pure hd (by decide) (by decide) (by decide) (by decide)) rfl)
    · obtain ⟨o', e1, e2, e3, e4, e5⟩ := o4
      obtain rfl := Option.some.inj (ho.symm.trans e1)
      have dp := dep_of' e5 hdep
      have hd : 73 < a.tmps.size := by rw [hz]; exact Nat.lt_of_lt_of_le (by decide) hs
      have V3 : a.tmps.getD 72 undef = .pointer (some (x.add k)) := hI.val 3 72 (by decide) rfl (dp 3 (by decide))
      exact wpOp_value (v := .slice (some y) N C) (w' := w) ho e4 (by simp [execOp, e3, ev, evc, V3, x4 w hbw]) (by rw [e2]; exact go rfl (hw.pure hd (by decide) (by decide) (by decide) (by decide)) rfl)
    · obtain ⟨o', e1, e2, e3, e4, e5⟩ := o5
      obtain rfl := Option.some.inj (ho.symm.trans e1)
      have dp := dep_of' e5 hdep
      have hd : 74 < a.tmps.size := by rw [hz]; exact Nat.lt_of_lt_of_le (by decide) hs
      have U7 : a.tmps.getD 7 undef = .int .i64 N := (kp 7 (by decide)).trans u_7
      exact wpOp_value (v := .int .i64 N) (w' := w) ho e4 (by simp [execOp, e3, ev, evc, U7]) (by rw [e2]; exact go rfl (hw.pure hd (by decide) (by decide) (by decide) (by decide)) rfl)
    · obtain ⟨o', e1, e2, e3, e4, e5⟩ := o6
      obtain rfl := Option.some.inj (ho.symm.trans e1)
      have dp := dep_of' e5 hdep
      have hd : 75 < a.tmps.size := by rw [hz]; exact Nat.lt_of_lt_of_le (by decide) hs
      have V5 : a.tmps.getD 74 undef = .int .i64 N := hI.val 5 74 (by decide) rfl (dp 5 (by decide))
      exact wpOp_value (v := .int .i64 h) (w' := w) ho e4 (by simp [execOp, e3, ev, evc, V5, x6 w, eqGuard]) (by rw [e2]; exact go rfl (hw.pure hd (by decide) (by decide) (by decide) (by decide)) rfl)
    · obtain ⟨o', e1, e2, e3, e4, e5⟩ := o7
      obtain rfl := Option.some.inj (ho.symm.trans e1)
      have dp := dep_of' e5 hdep
      have hd : 76 < a.tmps.size := by rw [hz]; exact Nat.lt_of_lt_of_le (by decide) hs
      have V4 : a.tmps.getD 73 undef = .slice (some y) N C := hI.val 4 73 (by decide) rfl (dp 4 (by decide))
      have V6 : a.tmps.getD 75 undef = .int .i64 h := hI.val 6 75 (by decide) rfl (dp 6 (by decide))
      exact wpOp_value (v := .slice (some y) h C) (w' := w) ho e4 (by simp [execOp, e3, ev, evc, V4, V6, x7 w]) (by rw [e2]; exact go rfl (hw.pure hd (by decide) (by decide) (by decide) (by decide)) rfl)
    · obtain ⟨o', e1, e2, e3, e4, e5⟩ := o8
      obtain rfl := Option.some.inj (ho.symm.trans e1)
      have dp := dep_of' e5 hdep
      have hd : 77 < a.tmps.size := by rw [hz]; exact Nat.lt_of_lt_of_le (by decide) hs
      have V7 : a.tmps.getD 76 undef = .slice (some y) h C := hI.val 7 76 (by decide) rfl (dp 7 (by decide))
      exact wpOp_value (v := .slice (some ⟨w.heap.size, 0, none⟩) 1 1) (w' := w.alloc (.cells #[.slice (some y) h C] 22)) ho e4 (by simp [execOp, e3, ev, evc, V7, run_build23]) (by rw [e2]; exact go rfl (TwoR.lit1 hw hd (by decide) (by decide) (by decide) (by decide)) trivial)
    · obtain ⟨o', e1, e2, e3, e4, e5⟩ := o9
      obtain rfl := Option.some.inj (ho.symm.trans e1)
      have dp := dep_of' e5 hdep
      have hd : 78 < a.tmps.size := by rw [hz]; exact Nat.lt_of_lt_of_le (by decide) hs
      have V0 : a.tmps.getD 69 undef = u1 := hI.val 0 69 (by decide) rfl (dp 0 (by decide))
      have hE : l 20 = false := by
        cases h : l 20 with
        | false => rfl
        | true => have := hcl.dep' o20 h 9 (by decide); rw [hl] at this; cases this
      obtain ⟨g, v', w', ht, hr, hR⟩ := TwoR.app1 hw hd (dp 8 (by decide)) hl hE (by decide) (by decide) (by decide) (by decide) rfl hn1 o.type
      exact wpOp_value (v := v') (w' := w') ho e4 (by simp [execOp, e3, resolve, invoke, builtin, ev, V0, ht, hr]) (by rw [e2]; exact go rfl hR trivial)
    · obtain ⟨o', e1, e2, e3, e4, e5⟩ := o10
      obtain rfl := Option.some.inj (ho.symm.trans e1)
      have dp := dep_of' e5 hdep
      have hd : 79 < a.tmps.size := by rw [hz]; exact Nat.lt_of_lt_of_le (by decide) hs
      have hE : l 21 = false := by
        cases h : l 21 with
        | false => rfl
        | true => have := hcl.dep' o21 h 10 (by decide); rw [hl] at this; cases this
      have U9 : a.tmps.getD 9 undef = u2 := hw.slot2 hE
      exact wpOp_value (v := u2) (w' := w) ho e4 (by simp [execOp, e3, ev, evc, U9]) (by rw [e2]; exact go rfl (hw.pure hd (by decide) (by decide) (by decide) (by decide)) rfl)
    · obtain ⟨o', e1, e2, e3, e4, e5⟩ := o11
      obtain rfl := Option.some.inj (ho.symm.trans e1)
      have dp := dep_of' e5 hdep
      have hd : 80 < a.tmps.size := by rw [hz]; exact Nat.lt_of_lt_of_le (by decide) hs
      have U1 : a.tmps.getD 1 undef = .slice (some x) n c := (kp 1 (by decide)).trans u_1
      exact wpOp_value (v := .slice (some x) n c) (w' := w) ho e4 (by simp [execOp, e3, ev, evc, U1]) (by rw [e2]; exact go rfl (hw.pure hd (by decide) (by decide) (by decide) (by decide)) rfl)
    · obtain ⟨o', e1, e2, e3, e4, e5⟩ := o12
      obtain rfl := Option.some.inj (ho.symm.trans e1)
      have dp := dep_of' e5 hdep
      have hd : 81 < a.tmps.size := by rw [hz]; exact Nat.lt_of_lt_of_le (by decide) hs
      have U12 : a.tmps.getD 12 undef = .int .i64 k := (kp 12 (by decide)).trans u_12
      exact wpOp_value (v := .int .i64 k) (w' := w) ho e4 (by simp [execOp, e3, ev, evc, U12]) (by rw [e2]; exact go rfl (hw.pure hd (by decide) (by decide) (by decide) (by decide)) rfl)
    · obtain ⟨o', e1, e2, e3, e4, e5⟩ := o13
      obtain rfl := Option.some.inj (ho.symm.trans e1)
      have dp := dep_of' e5 hdep
      have hd : 82 < a.tmps.size := by rw [hz]; exact Nat.lt_of_lt_of_le (by decide) hs
      have V11 : a.tmps.getD 80 undef = .slice (some x) n c := hI.val 11 80 (by decide) rfl (dp 11 (by decide))
      have V12 : a.tmps.getD 81 undef = .int .i64 k := hI.val 12 81 (by decide) rfl (dp 12 (by decide))
      exact wpOp_value (v := .pointer (some (x.add k))) (w' := w) ho e4 (by simp [execOp, e3, ev, evc, V11, V12, x13 w]) (by rw [e2]; exact go rfl (hw.pure hd (by decide) (by decide) (by decide) (by decide)) rfl)
    · obtain ⟨o', e1, e2, e3, e4, e5⟩ := o14
      obtain rfl := Option.some.inj (ho.symm.trans e1)
      have dp := dep_of' e5 hdep
      have hd : 83 < a.tmps.size := by rw [hz]; exact Nat.lt_of_lt_of_le (by decide) hs
      have V13 : a.tmps.getD 82 undef = .pointer (some (x.add k)) := hI.val 13 82 (by decide) rfl (dp 13 (by decide))
      exact wpOp_value (v := .slice (some y) N C) (w' := w) ho e4 (by simp [execOp, e3, ev, evc, V13, x14 w hbw]) (by rw [e2]; exact go rfl (hw.pure hd (by decide) (by decide) (by decide) (by decide)) rfl)
    · obtain ⟨o', e1, e2, e3, e4, e5⟩ := o15
      obtain rfl := Option.some.inj (ho.symm.trans e1)
      have dp := dep_of' e5 hdep
      have hd : 84 < a.tmps.size := by rw [hz]; exact Nat.lt_of_lt_of_le (by decide) hs
      have U7 : a.tmps.getD 7 undef = .int .i64 N := (kp 7 (by decide)).trans u_7
      exact wpOp_value (v := .int .i64 N) (w' := w) ho e4 (by simp [execOp, e3, ev, evc, U7]) (by rw [e2]; exact go rfl (hw.pure hd (by decide) (by decide) (by decide) (by decide)) rfl)
    · obtain ⟨o', e1, e2, e3, e4, e5⟩ := o16
      obtain rfl := Option.some.inj (ho.symm.trans e1)
      have dp := dep_of' e5 hdep
      have hd : 85 < a.tmps.size := by rw [hz]; exact Nat.lt_of_lt_of_le (by decide) hs
      have V15 : a.tmps.getD 84 undef = .int .i64 N := hI.val 15 84 (by decide) rfl (dp 15 (by decide))
      exact wpOp_value (v := .int .i64 h) (w' := w) ho e4 (by simp [execOp, e3, ev, evc, V15, x16 w, eqGuard]) (by rw [e2]; exact go rfl (hw.pure hd (by decide) (by decide) (by decide) (by decide)) rfl)
    · obtain ⟨o', e1, e2, e3, e4, e5⟩ := o17
      obtain rfl := Option.some.inj (ho.symm.trans e1)
      have dp := dep_of' e5 hdep
      have hd : 86 < a.tmps.size := by rw [hz]; exact Nat.lt_of_lt_of_le (by decide) hs
      have V14 : a.tmps.getD 83 undef = .slice (some y) N C := hI.val 14 83 (by decide) rfl (dp 14 (by decide))
      have V16 : a.tmps.getD 85 undef = .int .i64 h := hI.val 16 85 (by decide) rfl (dp 16 (by decide))
      exact wpOp_value (v := .slice (some (y.add h)) h (C - h)) (w' := w) ho e4 (by simp [execOp, e3, ev, evc, V14, V16, x17 w]) (by rw [e2]; exact go rfl (hw.pure hd (by decide) (by decide) (by decide) (by decide)) rfl)
    · obtain ⟨o', e1, e2, e3, e4, e5⟩ := o18
      obtain rfl := Option.some.inj (ho.symm.trans e1)
      have dp := dep_of' e5 hdep
      have hd : 87 < a.tmps.size := by rw [hz]; exact Nat.lt_of_lt_of_le (by decide) hs
      have V17 : a.tmps.getD 86 undef = .slice (some (y.add h)) h (C - h) := hI.val 17 86 (by decide) rfl (dp 17 (by decide))
      exact wpOp_value (v := .slice (some ⟨w.heap.size, 0, none⟩) 1 1) (w' := w.alloc (.cells #[.slice (some (y.add h)) h (C - h)] 22)) ho e4 (by simp [execOp, e3, ev, evc, V17, run_build23]) (by rw [e2]; exact go rfl (TwoR.lit1 hw.swap hd (by decide) (by decide) (by decide) (by decide)).swap trivial)
    · obtain ⟨o', e1, e2, e3, e4, e5⟩ := o19
      obtain rfl := Option.some.inj (ho.symm.trans e1)
      have dp := dep_of' e5 hdep
      have hd : 88 < a.tmps.size := by rw [hz]; exact Nat.lt_of_lt_of_le (by decide) hs
      have V10 : a.tmps.getD 79 undef = u2 := hI.val 10 79 (by decide) rfl (dp 10 (by decide))
      have hE : l 21 = false := by
        cases h : l 21 with
        | false => rfl
        | true => have := hcl.dep' o21 h 19 (by decide); rw [hl] at this; cases this
      obtain ⟨g, v', w', ht, hr, hR⟩ := TwoR.app1 hw.swap hd (dp 18 (by decide)) hl hE (by decide) (by decide) (by decide) (by decide) rfl hn2 o.type
      exact wpOp_value (v := v') (w' := w') ho e4 (by simp [execOp, e3, resolve, invoke, builtin, ev, V10, ht, hr]) (by rw [e2]; exact go rfl hR.swap trivial)
    · obtain ⟨o', e1, e2, e3, e4, e5⟩ := o20
      obtain rfl := Option.some.inj (ho.symm.trans e1)
      have dp := dep_of' e5 hdep
      have hd : 8 < a.tmps.size := by rw [hz]; exact Nat.lt_of_lt_of_le (by decide) hs
      exact wpOp_value (v := a.tmps.getD 78 undef) (w' := w) ho e4 (by simp [execOp, e3, ev]) (by rw [e2]; exact go rfl (TwoR.end1 hw hd (dp 9 (by decide)) (by decide) (by decide) (by decide) (by decide)) trivial)
    · obtain ⟨o', e1, e2, e3, e4, e5⟩ := o21
      obtain rfl := Option.some.inj (ho.symm.trans e1)
      have dp := dep_of' e5 hdep
      have hd : 9 < a.tmps.size := by rw [hz]; exact Nat.lt_of_lt_of_le (by decide) hs
      exact wpOp_value (v := a.tmps.getD 88 undef) (w' := w) ho e4 (by simp [execOp, e3, ev]) (by rw [e2]; exact go rfl (TwoR.end1 hw.swap hd (dp 19 (by decide)) (by decide) (by decide) (by decide) (by decide)).swap trivial)
  · intro l a w hall hI
    have all : ∀ j, j < 22 → l j = true := fun j hj => hall j (by rw [hsz]; exact hj)
    obtain ⟨v1, v2, h1, h2, hq, h3, h4, h5⟩ := hI.world
    simp only [all 9 (by decide), all 19 (by decide), if_true] at h3
    refine fin a w v1 v2 hI.size hI.defers hI.kept h1 hq.1 hq.2.1 hq.2.2 h3 ?_ ?_
    · rw [h4.2.2, if_pos (all 20 (by decide))]
    · rw [h5.2.2, if_pos (all 21 (by decide))]

def pvD (i : Nat) : Option Nat := match i with | 0 => some 89 | 1 => some 90 | 2 => some 91 | 3 => some 92 | 4 => some 93 | 5 => some 94 | 6 => some 95 | 7 => some 96 | 8 => some 97 | 9 => some 98 | 10 => some 99 | 11 => some 100 | 12 => some 101 | 13 => some 102 | 14 => some 103 | 15 => some 104 | 16 => some 105 | 17 => some 106 | 18 => some 107 | 19 => some 108 | 20 => some 10 | 21 => some 11 | _ => none
theorem pvD_inj : ∀ i, i < 22 → ∀ j, j < 22 → pvD i = pvD j → pvD i ≠ none → i = j := by decide
theorem pvD_lt : ∀ i, i < 22 → ∀ d, pvD i = some d → d < 170 := by
  intro i hi d h
  have : ∀ i, i < 22 → (pvD i).all (fun d => decide (d < 170)) = true := by decide
  have := this i hi
  rw [h] at this
  simpa using this
def pvF (x y : Addr) (n c k N h C : Nat) (u1 u2 : Value) (i : Nat) (q : Value) (w : World) : Prop := match i with
  | 0 => q = u1
  | 1 => q = .slice (some x) n c
  | 2 => q = .int .i64 k
  | 3 => q = .pointer (some (x.add k))
  | 4 => q = .slice (some y) N C
  | 5 => q = .int .i64 N
  | 6 => q = .int .i64 h
  | 7 => q = .slice (some y) h C
  | 8 => True
  | 9 => True
  | 10 => q = u2
  | 11 => q = .slice (some x) n c
  | 12 => q = .int .i64 k
  | 13 => q = .pointer (some (x.add k))
  | 14 => q = .slice (some y) N C
  | 15 => q = .int .i64 N
  | 16 => q = .int .i64 h
  | 17 => q = .slice (some (y.add h)) h (C - h)
  | 18 => True
  | 19 => True
  | 20 => True
  | 21 => True
  | _ => True

set_option maxHeartbeats 8000000 in
theorem pv_region {id : Nat} {ops : Array Oper} {Q : Exit → Act → World → Prop} {a0 : Act} {w0 : World} (x y : Addr) (n c k N h C : Nat) (u1 u2 : Value) (B : Nat) (W0 : World) (n1 n2 : Nat) (xs1 xs2 : List Value) (hlow : lowB ops = true) (hsz : ops.size = 22)
    (o0 : OpIn ops 0 (some 89) (.move (.tmp 10)) none []) (o1 : OpIn ops 1 (some 90) (.move (.tmp 2)) none []) (o2 : OpIn ops 2 (some 91) (.move (.tmp 12)) none []) (o3 : OpIn ops 3 (some 92) (.indexAddr 23 (.tmp 90) (.tmp 91)) none [1, 2]) (o4 : OpIn ops 4 (some 93) (.load 22 (.tmp 92)) none [3]) (o5 : OpIn ops 5 (some 94) (.move (.tmp 7)) none []) (o6 : OpIn ops 6 (some 95) (.binOp .quo 3 (.tmp 94) (.const (.int .i64 2)) 3) none [5]) (o7 : OpIn ops 7 (some 96) (.slice 22 (.tmp 93) none (some (.tmp 95)) none) none [4, 6]) (o8 : OpIn ops 8 (some 97) (.buildSlice 23 1 #[(0, .tmp 96)]) none [7]) (o9 : OpIn ops 9 (some 98) (.call { callee := .builtin .append, args := #[.tmp 89, .tmp 97], argTypes := #[23, 23] }) none [0, 8]) (o10 : OpIn ops 10 (some 99) (.move (.tmp 11)) none []) (o11 : OpIn ops 11 (some 100) (.move (.tmp 2)) none []) (o12 : OpIn ops 12 (some 101) (.move (.tmp 12)) none []) (o13 : OpIn ops 13 (some 102) (.indexAddr 23 (.tmp 100) (.tmp 101)) none [11, 12]) (o14 : OpIn ops 14 (some 103) (.load 22 (.tmp 102)) none [13]) (o15 : OpIn ops 15 (some 104) (.move (.tmp 7)) none []) (o16 : OpIn ops 16 (some 105) (.binOp .quo 3 (.tmp 104) (.const (.int .i64 2)) 3) none [15]) (o17 : OpIn ops 17 (some 106) (.slice 22 (.tmp 103) (some (.tmp 105)) none none) none [14, 16]) (o18 : OpIn ops 18 (some 107) (.buildSlice 23 1 #[(0, .tmp 106)]) none [17]) (o19 : OpIn ops 19 (some 108) (.call { callee := .builtin .append, args := #[.tmp 99, .tmp 107], argTypes := #[23, 23] }) none [10, 18]) (o20 : OpIn ops 20 (some 10) (.assign (.tmp 98)) none [0, 9]) (o21 : OpIn ops 21 (some 11) (.assign (.tmp 108)) none [10, 19])
    (hW : Below B W0 w0) (hB : B ≤ w0.heap.size) (hT : Two B w0 u1 n1 xs1 u2 n2 xs2) (hn1 : (n1 + 1) * 24 ≤ 140737488355328) (hn2 : (n2 + 1) * 24 ≤ 140737488355328)
    (x3 : ∀ w, (Instr.indexAt 23 (.slice (some x) n c) (.int .i64 k)).run Try.prog w = .ok (.pointer (some (x.add k))) w)
    (x4 : ∀ w, Below B W0 w → (Instr.loadAt 22 (.pointer (some (x.add k)))).run Try.prog w = .ok (.slice (some y) N C) w)
    (x6 : ∀ w, (binOp .quo 3 (.int .i64 N) (.int .i64 2)).run Try.prog w = .ok (.int .i64 h) w)
    (x7 : ∀ w, (Instr.sliceAt 22 (.slice (some y) N C) none (some (.int .i64 h)) none).run Try.prog w = .ok (.slice (some y) h C) w)
    (x13 : ∀ w, (Instr.indexAt 23 (.slice (some x) n c) (.int .i64 k)).run Try.prog w = .ok (.pointer (some (x.add k))) w)
    (x14 : ∀ w, Below B W0 w → (Instr.loadAt 22 (.pointer (some (x.add k)))).run Try.prog w = .ok (.slice (some y) N C) w)
    (x16 : ∀ w, (binOp .quo 3 (.int .i64 N) (.int .i64 2)).run Try.prog w = .ok (.int .i64 h) w)
    (x17 : ∀ w, (Instr.sliceAt 22 (.slice (some y) N C) (some (.int .i64 h)) none none).run Try.prog w = .ok (.slice (some (y.add h)) h (C - h)) w)
    (u_2 : a0.tmps.getD 2 undef = .slice (some x) n c)
    (u_7 : a0.tmps.getD 7 undef = .int .i64 N)
    (u_12 : a0.tmps.getD 12 undef = .int .i64 k)
    (ur1 : a0.tmps.getD 10 undef = u1)
    (ur2 : a0.tmps.getD 11 undef = u2)
    (hs : 170 ≤ a0.tmps.size)
    (fin : ∀ a w v1 v2, a.tmps.size = a0.tmps.size → a.defers = a0.defers → (∀ s, (∀ i, i < 22 → pvD i ≠ some s) → a.tmps.getD s undef = a0.tmps.getD s undef) → Below B W0 w → Beside w0 w u1 u2 → Stays w0 u1 v1 → Stays w0 u2 v2 → Two B w v1 (n1 + 1) (xs1 ++ [.slice (some y) h C]) v2 (n2 + 1) (xs2 ++ [.slice (some (y.add h)) h (C - h)]) → a.tmps.getD 10 undef = v1 → a.tmps.getD 11 undef = v2 → Q .normal a w) : (Code.region id ops true).wp Try.prog Q a0 w0 := by
  refine wp_region_inv2 (by kernel_rfl) hlow (Inv 22 pvD a0 (TwoR 9 8 20 98 97 10 19 18 21 108 107 11 B W0 u1 n1 xs1 (.slice (some y) h C) u2 n2 xs2 (.slice (some (y.add h)) h (C - h)) w0) (fun _ => pvF x y n c k N h C u1 u2)) (Inv.start (TwoR.start ⟨hW.os, hW.tape, hW.output, hW.size, hW.block⟩ hB ⟨hT.o1, hT.o2, hT.ap⟩ ur1 ur2 ⟨Nat.le_refl _, fun _ _ _ _ => rfl⟩)) ?_ ?_
  · intro l i o a w ho hl hcl hdep hI
    have hi : i < 22 := by rw [← hsz]; exact (Array.getElem?_eq_some_iff.1 ho).1
    have ev : ∀ (s : Nat), a.eval (.tmp s) = a.tmps.getD s undef := fun _ => rfl
    have evc : ∀ c : Value, a.eval (.const c) = c := fun _ => rfl
    have inj : ∀ d, pvD i = some d → ∀ j d', j < 22 → pvD j = some d' → j ≠ i → d' ≠ d := fun d hd j d' hj hd' hne e => hne (pvD_inj j hj i hi (by rw [hd', hd, e]) (by rw [hd']; simp))
    have kp : ∀ s, (∀ i, i < 22 → pvD i ≠ some s) → a.tmps.getD s undef = a0.tmps.getD s undef := hI.kept
    have hw := hI.world
    have hbw : Below B W0 w := by obtain ⟨_, _, h, _⟩ := hw; exact h
    have hz : a.tmps.size = a0.tmps.size := hI.size
    have go : ∀ {d : Nat} {v : Value} {w' : World}, pvD i = some d → TwoR 9 8 20 98 97 10 19 18 21 108 107 11 B W0 u1 n1 xs1 (.slice (some y) h C) u2 n2 xs2 (.slice (some (y.add h)) h (C - h)) w0 (fun j => l j || j == i) (a.put (some d) v) w' → pvF x y n c k N h C u1 u2 i v w' → Inv 22 pvD a0 (TwoR 9 8 20 98 97 10 19 18 21 108 107 11 B W0 u1 n1 xs1 (.slice (some y) h C) u2 n2 xs2 (.slice (some (y.add h)) h (C - h)) w0) (fun _ => pvF x y n c k N h C u1 u2) (fun j => l j || j == i) (a.put (some d) v) w' := by
      intro d v w' hD hR hF
      exact hI.put hi hD (Nat.lt_of_lt_of_le (pvD_lt i hi d hD) hs) (inj d hD) hR hF (fun j u _ _ _ hf => hf)
    rcases (show i = 0 ∨ i = 1 ∨ i = 2 ∨ i = 3 ∨ i = 4 ∨ i = 5 ∨ i = 6 ∨ i = 7 ∨ i = 8 ∨ i = 9 ∨ i = 10 ∨ i = 11 ∨ i = 12 ∨ i = 13 ∨ i = 14 ∨ i = 15 ∨ i = 16 ∨ i = 17 ∨ i = 18 ∨ i = 19 ∨ i = 20 ∨ i = 21 by omega) with rfl | rfl | rfl | rfl | rfl | rfl | rfl | rfl | rfl | rfl | rfl | rfl | rfl | rfl | rfl | rfl | rfl | rfl | rfl | rfl | rfl | rfl
    · obtain ⟨o', e1, e2, e3, e4, e5⟩ := o0
      obtain rfl := Option.some.inj (ho.symm.trans e1)
      have dp := dep_of' e5 hdep
      have hd : 89 < a.tmps.size := by rw [hz]; exact Nat.lt_of_lt_of_le (by decide) hs
      have hE : l 20 = false := by
        cases h : l 20 with
        | false => rfl
        | true => have := hcl.dep' o20 h 0 (by decide); rw [hl] at this; cases this
      have U10 : a.tmps.getD 10 undef = u1 := hw.slot1 hE
      exact wpOp_value (v := u1) (w' := w) ho e4 (by simp [execOp, e3, ev, evc, U10]) (by rw [e2]; exact go rfl (hw.pure hd (by decide) (by decide) (by decide) (by decide)) rfl)
    · obtain ⟨o', e1, e2, e3, e4, e5⟩ := o1
      obtain rfl := Option.some.inj (ho.symm.trans e1)
      have dp := dep_of' e5 hdep
      have hd : 90 < a.tmps.size := by rw [hz]; exact Nat.lt_of_lt_of_le (by decide) hs
      have U2 : a.tmps.getD 2 undef = .slice (some x) n c := (kp 2 (by decide)).trans u_2
      exact wpOp_value (v := .slice (some x) n c) (w' := w) ho e4 (by simp [execOp, e3, ev, evc, U2]) (by rw [e2]; exact go rfl (hw.pure hd (by decide) (by decide) (by decide) (by decide)) rfl)
    · obtain ⟨o', e1, e2, e3, e4, e5⟩ := o2
      obtain rfl := Option.some.inj (ho.symm.trans e1)
      have dp := dep_of' e5 hdep
      have hd : 91 < a.tmps.size := by rw [hz]; exact Nat.lt_of_lt_of_le (by decide) hs
      have U12 : a.tmps.getD 12 undef = .int .i64 k := (kp 12 (by decide)).trans u_12
      exact wpOp_value (v := .int .i64 k) (w' := w) ho e4 (by simp [execOp, e3, ev, evc, U12]) (by rw [e2]; exact go rfl (hw.pure hd (by decide) (by decide) (by decide) (by decide)) rfl)
    · obtain ⟨o', e1, e2, e3, e4, e5⟩ := o3
      obtain rfl := Option.some.inj (ho.symm.trans e1)
      have dp := dep_of' e5 hdep
      have hd : 92 < a.tmps.size := by rw [hz]; exact Nat.lt_of_lt_of_le (by decide) hs
      have V1 : a.tmps.getD 90 undef = .slice (some x) n c := hI.val 1 90 (by decide) rfl (dp 1 (by decide))
      have V2 : a.tmps.getD 91 undef = .int .i64 k := hI.val 2 91 (by decide) rfl (dp 2 (by decide))
      exact wpOp_value (v := .pointer (some (x.add k))) (w' := w) ho e4 (by simp [execOp, e3, ev, evc, V1, V2, x3 w]) (by rw [e2]; exact go rfl (hw.pure hd (by decide) (by decide) (by decide) (by decide)) rfl)
    · obtain ⟨o', e1, e2, e3, e4, e5⟩ := o4
      obtain rfl := Option.some.inj (ho.symm.trans e1)
      have dp := dep_of' e5 hdep
      have hd : 93 < a.tmps.size := by rw [hz]; exact Nat.lt_of_lt_of_le (by decide) hs
      have V3 : a.tmps.getD 92 undef = .pointer (some (x.add k)) := hI.val 3 92 (by decide) rfl (dp 3 (by decide))
      exact wpOp_value (v := .slice (some y) N C) (w' := w) ho e4 (by simp [execOp, e3, ev, evc, V3, x4 w hbw]) (by rw [e2]; exact go rfl (hw.pure hd (by decide) (by decide) (by decide) (by decide)) rfl)
    · obtain ⟨o', e1, e2, e3, e4, e5⟩ := o5
      obtain rfl := Option.some.inj (ho.symm.trans e1)
      have dp := dep_of' e5 hdep
      have hd : 94 < a.tmps.size := by rw [hz]; exact Nat.lt_of_lt_of_le (by decide) hs
      have U7 : a.tmps.getD 7 undef = .int .i64 N := (kp 7 (by decide)).trans u_7
      exact wpOp_value (v := .int .i64 N) (w' := w) ho e4 (by simp [execOp, e3, ev, evc, U7]) (by rw [e2]; exact go rfl (hw.pure hd (by decide) (by decide) (by decide) (by decide)) rfl)
    · obtain ⟨o', e1, e2, e3, e4, e5⟩ := o6
      obtain rfl := Option.some.inj (ho.symm.trans e1)
      have dp := dep_of' e5 hdep
      have hd : 95 < a.tmps.size := by rw [hz]; exact Nat.lt_of_lt_of_le (by decide) hs
      have V5 : a.tmps.getD 94 undef = .int .i64 N := hI.val 5 94 (by decide) rfl (dp 5 (by decide))
      exact wpOp_value (v := .int .i64 h) (w' := w) ho e4 (by simp [execOp, e3, ev, evc, V5, x6 w, eqGuard]) (by rw [e2]; exact go rfl (hw.pure hd (by decide) (by decide) (by decide) (by decide)) rfl)
    · obtain ⟨o', e1, e2, e3, e4, e5⟩ := o7
      obtain rfl := Option.some.inj (ho.symm.trans e1)
      have dp := dep_of' e5 hdep
      have hd : 96 < a.tmps.size := by rw [hz]; exact Nat.lt_of_lt_of_le (by decide) hs
      have V4 : a.tmps.getD 93 undef = .slice (some y) N C := hI.val 4 93 (by decide) rfl (dp 4 (by decide))
      have V6 : a.tmps.getD 95 undef = .int .i64 h := hI.val 6 95 (by decide) rfl (dp 6 (by decide))
      exact wpOp_value (v := .slice (some y) h C) (w' := w) ho e4 (by simp [execOp, e3, ev, evc, V4, V6, x7 w]) (by rw [e2]; exact go rfl (hw.pure hd (by decide) (by decide) (by decide) (by decide)) rfl)
    · obtain ⟨o', e1, e2, e3, e4, e5⟩ := o8
      obtain rfl := Option.some.inj (ho.symm.trans e1)
      have dp := dep_of' e5 hdep
      have hd : 97 < a.tmps.size := by rw [hz]; exact Nat.lt_of_lt_of_le (by decide) hs
      have V7 : a.tmps.getD 96 undef = .slice (some y) h C := hI.val 7 96 (by decide) rfl (dp 7 (by decide))
      exact wpOp_value (v := .slice (some ⟨w.heap.size, 0, none⟩) 1 1) (w' := w.alloc (.cells #[.slice (some y) h C] 22)) ho e4 (by simp [execOp, e3, ev, evc, V7, run_build23]) (by rw [e2]; exact go rfl (TwoR.lit1 hw hd (by decide) (by decide) (by decide) (by decide)) trivial)
    · obtain ⟨o', e1, e2, e3, e4, e5⟩ := o9
      obtain rfl := Option.some.inj (ho.symm.trans e1)
      have dp := dep_of' e5 hdep
      have hd : 98 < a.tmps.size := by rw [hz]; exact Nat.lt_of_lt_of_le (by decide) hs
      have V0 : a.tmps.getD 89 undef = u1 := hI.val 0 89 (by decide) rfl (dp 0 (by decide))
      have hE : l 20 = false := by
        cases h : l 20 with
        | false => rfl
        | true => have := hcl.dep' o20 h 9 (by decide); rw [hl] at this; cases this
      obtain ⟨g, v', w', ht, hr, hR⟩ := TwoR.app1 hw hd (dp 8 (by decide)) hl hE (by decide) (by decide) (by decide) (by decide) rfl hn1 o.type
      exact wpOp_value (v := v') (w' := w') ho e4 (by simp [execOp, e3, resolve, invoke, builtin, ev, V0, ht, hr]) (by rw [e2]; exact go rfl hR trivial)
    · obtain ⟨o', e1, e2, e3, e4, e5⟩ := o10
      obtain rfl := Option.some.inj (ho.symm.trans e1)
      have dp := dep_of' e5 hdep
      have hd : 99 < a.tmps.size := by rw [hz]; exact Nat.lt_of_lt_of_le (by decide) hs
      have hE : l 21 = false := by
        cases h : l 21 with
        | false => rfl
        | true => have := hcl.dep' o21 h 10 (by decide); rw [hl] at this; cases this
      have U11 : a.tmps.getD 11 undef = u2 := hw.slot2 hE
      exact wpOp_value (v := u2) (w' := w) ho e4 (by simp [execOp, e3, ev, evc, U11]) (by rw [e2]; exact go rfl (hw.pure hd (by decide) (by decide) (by decide) (by decide)) rfl)
    · obtain ⟨o', e1, e2, e3, e4, e5⟩ := o11
      obtain rfl := Option.some.inj (ho.symm.trans e1)
      have dp := dep_of' e5 hdep
      have hd : 100 < a.tmps.size := by rw [hz]; exact Nat.lt_of_lt_of_le (by decide) hs
      have U2 : a.tmps.getD 2 undef = .slice (some x) n c := (kp 2 (by decide)).trans u_2
      exact wpOp_value (v := .slice (some x) n c) (w' := w) ho e4 (by simp [execOp, e3, ev, evc, U2]) (by rw [e2]; exact go rfl (hw.pure hd (by decide) (by decide) (by decide) (by decide)) rfl)
    · obtain ⟨o', e1, e2, e3, e4, e5⟩ := o12
      obtain rfl := Option.some.inj (ho.symm.trans e1)
      have dp := dep_of' e5 hdep
      have hd : 101 < a.tmps.size := by rw [hz]; exact Nat.lt_of_lt_of_le (by decide) hs
      have U12 : a.tmps.getD 12 undef = .int .i64 k := (kp 12 (by decide)).trans u_12
      exact wpOp_value (v := .int .i64 k) (w' := w) ho e4 (by simp [execOp, e3, ev, evc, U12]) (by rw [e2]; exact go rfl (hw.pure hd (by decide) (by decide) (by decide) (by decide)) rfl)
    · obtain ⟨o', e1, e2, e3, e4, e5⟩ := o13
      obtain rfl := Option.some.inj (ho.symm.trans e1)
      have dp := dep_of' e5 hdep
      have hd : 102 < a.tmps.size := by rw [hz]; exact Nat.lt_of_lt_of_le (by decide) hs
      have V11 : a.tmps.getD 100 undef = .slice (some x) n c := hI.val 11 100 (by decide) rfl (dp 11 (by decide))
      have V12 : a.tmps.getD 101 undef = .int .i64 k := hI.val 12 101 (by decide) rfl (dp 12 (by decide))
      exact wpOp_value (v := .pointer (some (x.add k))) (w' := w) ho e4 (by simp [execOp, e3, ev, evc, V11, V12, x13 w]) (by rw [e2]; exact go rfl (hw.pure hd (by decide) (by decide) (by decide) (by decide)) rfl)
    · obtain ⟨o', e1, e2, e3, e4, e5⟩ := o14
      obtain rfl := Option.some.inj (ho.symm.trans e1)
      have dp := dep_of' e5 hdep
      have hd : 103 < a.tmps.size := by rw [hz]; exact Nat.lt_of_lt_of_le (by decide) hs
      have V13 : a.tmps.getD 102 undef = .pointer (some (x.add k)) := hI.val 13 102 (by decide) rfl (dp 13 (by decide))
      exact wpOp_value (v := .slice (some y) N C) (w' := w) ho e4 (by simp [execOp, e3, ev, evc, V13, x14 w hbw]) (by rw [e2]; exact go rfl (hw.pure hd (by decide) (by decide) (by decide) (by decide)) rfl)
    · obtain ⟨o', e1, e2, e3, e4, e5⟩ := o15
      obtain rfl := Option.some.inj (ho.symm.trans e1)
      have dp := dep_of' e5 hdep
      have hd : 104 < a.tmps.size := by rw [hz]; exact Nat.lt_of_lt_of_le (by decide) hs
      have U7 : a.tmps.getD 7 undef = .int .i64 N := (kp 7 (by decide)).trans u_7
      exact wpOp_value (v := .int .i64 N) (w' := w) ho e4 (by simp [execOp, e3, ev, evc, U7]) (by rw [e2]; exact go rfl (hw.pure hd (by decide) (by decide) (by decide) (by decide)) rfl)
    · obtain ⟨o', e1, e2, e3, e4, e5⟩ := o16
      obtain rfl := Option.some.inj (ho.symm.trans e1)
      have dp := dep_of' e5 hdep
      have hd : 105 < a.tmps.size := by rw [hz]; exact Nat.lt_of_lt_of_le (by decide) hs
      have V15 : a.tmps.getD 104 undef = .int .i64 N := hI.val 15 104 (by decide) rfl (dp 15 (by decide))
      exact wpOp_value (v := .int .i64 h) (w' := w) ho e4 (by simp [execOp, e3, ev, evc, V15, x16 w, eqGuard]) (by rw [e2]; exact go rfl (hw.pure hd (by decide) (by decide) (by decide) (by decide)) rfl)
    · obtain ⟨o', e1, e2, e3, e4, e5⟩ := o17
      obtain rfl := Option.some.inj (ho.symm.trans e1)
      have dp := dep_of' e5 hdep
      have hd : 106 < a.tmps.size := by rw [hz]; exact Nat.lt_of_lt_of_le (by decide) hs
      have V14 : a.tmps.getD 103 undef = .slice (some y) N C := hI.val 14 103 (by decide) rfl (dp 14 (by decide))
      have V16 : a.tmps.getD 105 undef = .int .i64 h := hI.val 16 105 (by decide) rfl (dp 16 (by decide))
      exact wpOp_value (v := .slice (some (y.add h)) h (C - h)) (w' := w) ho e4 (by simp [execOp, e3, ev, evc, V14, V16, x17 w]) (by rw [e2]; exact go rfl (hw.pure hd (by decide) (by decide) (by decide) (by decide)) rfl)
    · obtain ⟨o', e1, e2, e3, e4, e5⟩ := o18
      obtain rfl := Option.some.inj (ho.symm.trans e1)
      have dp := dep_of' e5 hdep
      have hd : 107 < a.tmps.size := by rw [hz]; exact Nat.lt_of_lt_of_le (by decide) hs
      have V17 : a.tmps.getD 106 undef = .slice (some (y.add h)) h (C - h) := hI.val 17 106 (by decide) rfl (dp 17 (by decide))
      exact wpOp_value (v := .slice (some ⟨w.heap.size, 0, none⟩) 1 1) (w' := w.alloc (.cells #[.slice (some (y.add h)) h (C - h)] 22)) ho e4 (by simp [execOp, e3, ev, evc, V17, run_build23]) (by rw [e2]; exact go rfl (TwoR.lit1 hw.swap hd (by decide) (by decide) (by decide) (by decide)).swap trivial)
    · obtain ⟨o', e1, e2, e3, e4, e5⟩ := o19
      obtain rfl := Option.some.inj (ho.symm.trans e1)
      have dp := dep_of' e5 hdep
      have hd : 108 < a.tmps.size := by rw [hz]; exact Nat.lt_of_lt_of_le (by decide) hs
      have V10 : a.tmps.getD 99 undef = u2 := hI.val 10 99 (by decide) rfl (dp 10 (by decide))
      have hE : l 21 = false := by
        cases h : l 21 with
        | false => rfl
        | true => have := hcl.dep' o21 h 19 (by decide); rw [hl] at this; cases this
      obtain ⟨g, v', w', ht, hr, hR⟩ := TwoR.app1 hw.swap hd (dp 18 (by decide)) hl hE (by decide) (by decide) (by decide) (by decide) rfl hn2 o.type
      exact wpOp_value (v := v') (w' := w') ho e4 (by simp [execOp, e3, resolve, invoke, builtin, ev, V10, ht, hr]) (by rw [e2]; exact go rfl hR.swap trivial)
    · obtain ⟨o', e1, e2, e3, e4, e5⟩ := o20
      obtain rfl := Option.some.inj (ho.symm.trans e1)
      have dp := dep_of' e5 hdep
      have hd : 10 < a.tmps.size := by rw [hz]; exact Nat.lt_of_lt_of_le (by decide) hs
      exact wpOp_value (v := a.tmps.getD 98 undef) (w' := w) ho e4 (by simp [execOp, e3, ev]) (by rw [e2]; exact go rfl (TwoR.end1 hw hd (dp 9 (by decide)) (by decide) (by decide) (by decide) (by decide)) trivial)
    · obtain ⟨o', e1, e2, e3, e4, e5⟩ := o21
      obtain rfl := Option.some.inj (ho.symm.trans e1)
      have dp := dep_of' e5 hdep
      have hd : 11 < a.tmps.size := by rw [hz]; exact Nat.lt_of_lt_of_le (by decide) hs
      exact wpOp_value (v := a.tmps.getD 108 undef) (w' := w) ho e4 (by simp [execOp, e3, ev]) (by rw [e2]; exact go rfl (TwoR.end1 hw.swap hd (dp 19 (by decide)) (by decide) (by decide) (by decide) (by decide)).swap trivial)
  · intro l a w hall hI
    have all : ∀ j, j < 22 → l j = true := fun j hj => hall j (by rw [hsz]; exact hj)
    obtain ⟨v1, v2, h1, h2, hq, h3, h4, h5⟩ := hI.world
    simp only [all 9 (by decide), all 19 (by decide), if_true] at h3
    refine fin a w v1 v2 hI.size hI.defers hI.kept h1 hq.1 hq.2.1 hq.2.2 h3 ?_ ?_
    · rw [h4.2.2, if_pos (all 20 (by decide))]
    · rw [h5.2.2, if_pos (all 21 (by decide))]

end Go.Proofs.Ythbddbipmoflfaa
