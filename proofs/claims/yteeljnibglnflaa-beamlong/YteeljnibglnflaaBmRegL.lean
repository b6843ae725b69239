/- A region that holds final scores side by side, whatever the order. -/
import Derived.Test.YteeljnibglnflaaRows
import Derived.Test.YteeljnibglnflaaView
import Derived.Test.YteeljnibglnflaaGInvIn
import Derived.Test.YteeljnibglnflaaBmReg
import Derived.Test.YteeljnibglnflaaBmZ
import Derived.Test.YteeljnibglnflaaBmAt
import Derived.Test.YteeljnibglnflaaBmSwap
import Derived.Test.YteeljnibglnflaaBmBox
import Derived.Test.YteeljnibglnflaaBmRegG
import Derived.WalkKit
import Derived.ProofKit
import Derived.OpenShut
import Derived.WalkLawsBesides
import Derived.Below
import Derived.Deep.QuietTactic
import Derived.BigQuiet
import Derived.Laws.AppendOwnNone
import Derived.Orders
namespace Go.Proofs.Yteeljnibglnflaa
set_option maxRecDepth 20000
open Go.ChangeShapes Go.WideShapes Go.ChangeAt Go.RowKit
set_option linter.unusedVariables false
set_option linter.unusedSimpArgs false

def lfD (i : Nat) : Option Nat := match i with | 0 => some 36 | 1 => some 37 | 2 => some 38 | 3 => some 39 | 4 => some 40 | 5 => some 41 | 6 => some 42 | 7 => some 43 | 8 => some 44 | 9 => some 45 | 10 => some 46 | 11 => some 47 | 12 => some 48 | 13 => some 49 | 14 => some 50 | 15 => some 51 | 16 => some 52 | 17 => some 53 | 18 => some 54 | 19 => some 55 | 20 => some 8 | _ => none
theorem lfD_inj : ∀ i, i < 21 → ∀ j, j < 21 → lfD i = lfD j → lfD i ≠ none → i = j := by decide
theorem lfD_lt : ∀ i, i < 21 → ∀ d, lfD i = some d → d < 56 := by
  intro i hi d h
  have : ∀ i, i < 21 → (lfD i).all (fun d => decide (d < 56)) = true := by decide
  have := this i hi
  rw [h] at this
  simpa using this
def lfF (b9 b10 mn mx : Nat) (xa xb : Option Addr) (SS pp f1 f2 : Int) (i : Nat) (q : Value) (w : World) : Prop := match i with
  | 0 => q = .agg #[.slice xa mn mn, .int .i64 SS, .bool false]
  | 1 => q = .int .i64 pp
  | 2 => q = .int .i64 f1
  | 3 => q = .agg #[.slice xb mx mx, .int .i64 SS, .bool false]
  | 4 => q = .int .i64 pp
  | 5 => q = .int .i64 f2
  | 6 => q = .bool true
  | 7 => q = .bool true
  | 8 => q = .agg #[.slice xa mn mn, .int .i64 SS, .bool false]
  | 9 => q = .int .i64 SS
  | 10 => q = .int .i64 SS
  | 11 => q = .bool true
  | 12 => q = .bool true
  | 13 => q = .bool true
  | 14 => q = .agg #[.slice xa mn mn, .int .i64 SS, .bool false]
  | 15 => q = .int .i64 pp
  | 16 => q = .int .i64 f1
  | 17 => q = .int .i64 SS
  | 18 => q = .bool true
  | 19 => q = .bool true
  | 20 => q = .bool true
  | _ => True
theorem lfF_below {b9 b10 mn mx : Nat} {xa xb : Option Addr} {SS pp f1 f2 : Int} {i : Nat} {q : Value} {w w' : World} (h : lfF b9 b10 mn mx xa xb SS pp f1 f2 i q w) (hb : Below w.heap.size w w') : lfF b9 b10 mn mx xa xb SS pp f1 f2 i q w' := by
  unfold lfF at h ⊢
  split
  · exact h
  · exact h
  · exact h
  · exact h
  · exact h
  · exact h
  · exact h
  · exact h
  · exact h
  · exact h
  · exact h
  · exact h
  · exact h
  · exact h
  · exact h
  · exact h
  · exact h
  · exact h
  · exact h
  · exact h
  · exact h
  · trivial

set_option maxHeartbeats 8000000 in
theorem lf_region {id : Nat} {ops : Array Oper} {Q : Exit → Act → World → Prop} {a0 : Act} {w0 : World} (b9 b10 mn mx : Nat) (xa xb : Option Addr) (SS pp f1 f2 : Int) (S : World → Prop) (hlow : lowB ops = true) (hsz : ops.size = 21)
    (o0 : OpIn ops 0 (some 36) (.load 40 (.tmp 9)) none []) (o1 : OpIn ops 1 (some 37) (.move (.tmp 3)) none []) (o2 : OpIn ops 2 (some 38) (.call { callee := .value (.func 15), args := #[.tmp 36, .tmp 37], argTypes := #[40, 3] }) none [0, 1]) (o3 : OpIn ops 3 (some 39) (.load 40 (.tmp 10)) none []) (o4 : OpIn ops 4 (some 40) (.move (.tmp 3)) none []) (o5 : OpIn ops 5 (some 41) (.call { callee := .value (.func 15), args := #[.tmp 39, .tmp 40], argTypes := #[40, 3] }) none [3, 4]) (o6 : OpIn ops 6 (some 42) (.binOp .leq 2 (.tmp 38) (.tmp 41) 2) none [2, 5]) (o7 : OpIn ops 7 (some 43) (.move (.tmp 42)) none [6]) (o8 : OpIn ops 8 (some 44) (.load 40 (.tmp 9)) (some (7, true)) [7]) (o9 : OpIn ops 9 (some 45) (.call { callee := .value (.func 15), args := #[.tmp 44, .const (.int .i64 0)], argTypes := #[40, 3] }) (some (7, true)) [7, 8]) (o10 : OpIn ops 10 (some 46) (.move (.tmp 0)) (some (7, true)) [7]) (o11 : OpIn ops 11 (some 47) (.binOp .eql 2 (.tmp 45) (.tmp 46) 2) (some (7, true)) [7, 9, 10]) (o12 : OpIn ops 12 (some 48) (.pick (.tmp 43) (.tmp 47) (.const (.bool false))) none [7, 11]) (o13 : OpIn ops 13 (some 49) (.move (.tmp 48)) none [12]) (o14 : OpIn ops 14 (some 50) (.load 40 (.tmp 9)) (some (13, true)) [13]) (o15 : OpIn ops 15 (some 51) (.move (.tmp 3)) (some (13, true)) [13]) (o16 : OpIn ops 16 (some 52) (.call { callee := .value (.func 15), args := #[.tmp 50, .tmp 51], argTypes := #[40, 3] }) (some (13, true)) [13, 14, 15]) (o17 : OpIn ops 17 (some 53) (.move (.tmp 0)) (some (13, true)) [13]) (o18 : OpIn ops 18 (some 54) (.binOp .geq 2 (.tmp 52) (.tmp 53) 2) (some (13, true)) [13, 16, 17]) (o19 : OpIn ops 19 (some 55) (.pick (.tmp 49) (.tmp 54) (.const (.bool false))) none [13, 18]) (o20 : OpIn ops 20 (some 8) (.assign (.tmp 55)) none [19])
    (hS : S w0.drew)
    (x0 : ∀ w, S w → (Instr.loadAt 40 (.pointer (some ⟨b9, 0, none⟩))).run Try.prog w = .ok (.agg #[.slice xa mn mn, .int .i64 SS, .bool false]) w)
    (x2 : ∀ w, S w → Calls Try.prog 15 #[.agg #[.slice xa mn mn, .int .i64 SS, .bool false], .int .i64 pp] w fun e w' => e = .returned (.int .i64 f1) ∧ Below w.heap.size w w' ∧ S w')
    (x3 : ∀ w, S w → (Instr.loadAt 40 (.pointer (some ⟨b10, 0, none⟩))).run Try.prog w = .ok (.agg #[.slice xb mx mx, .int .i64 SS, .bool false]) w)
    (x5 : ∀ w, S w → Calls Try.prog 15 #[.agg #[.slice xb mx mx, .int .i64 SS, .bool false], .int .i64 pp] w fun e w' => e = .returned (.int .i64 f2) ∧ Below w.heap.size w w' ∧ S w')
    (x6 : ∀ w, (binOp .leq 2 (.int .i64 f1) (.int .i64 f2)).run Try.prog w = .ok (.bool true) w)
    (x8 : ∀ w, S w → (Instr.loadAt 40 (.pointer (some ⟨b9, 0, none⟩))).run Try.prog w = .ok (.agg #[.slice xa mn mn, .int .i64 SS, .bool false]) w)
    (x9 : ∀ w, S w → Calls Try.prog 15 #[.agg #[.slice xa mn mn, .int .i64 SS, .bool false], .int .i64 0] w fun e w' => e = .returned (.int .i64 SS) ∧ Below w.heap.size w w' ∧ S w')
    (x11 : ∀ w, (binOp .eql 2 (.int .i64 SS) (.int .i64 SS)).run Try.prog w = .ok (.bool true) w)
    (x14 : ∀ w, S w → (Instr.loadAt 40 (.pointer (some ⟨b9, 0, none⟩))).run Try.prog w = .ok (.agg #[.slice xa mn mn, .int .i64 SS, .bool false]) w)
    (x16 : ∀ w, S w → Calls Try.prog 15 #[.agg #[.slice xa mn mn, .int .i64 SS, .bool false], .int .i64 pp] w fun e w' => e = .returned (.int .i64 f1) ∧ Below w.heap.size w w' ∧ S w')
    (x18 : ∀ w, (binOp .geq 2 (.int .i64 f1) (.int .i64 SS)).run Try.prog w = .ok (.bool true) w)
    (u0 : a0.tmps.getD 0 undef = .int .i64 SS)
    (u3 : a0.tmps.getD 3 undef = .int .i64 pp)
    (u9 : a0.tmps.getD 9 undef = .pointer (some ⟨b9, 0, none⟩))
    (u10 : a0.tmps.getD 10 undef = .pointer (some ⟨b10, 0, none⟩))
    (hs : 56 ≤ a0.tmps.size)
    (fin : ∀ a w, a.tmps.size = a0.tmps.size → a.defers = a0.defers → (∀ s, (∀ i, i < 21 → lfD i ≠ some s) → a.tmps.getD s undef = a0.tmps.getD s undef) → S w → (∀ i d, i < 21 → lfD i = some d → lfF b9 b10 mn mx xa xb SS pp f1 f2 i (a.tmps.getD d undef) w) → Q .normal a w) : (Code.region id ops true).wp Try.prog Q a0 w0 := by
  have r15 : ∀ args w, (callFunc 15 args).run Try.prog w = .ok (.enter 15 args) w := enters_of Try.func15 (by kernel_rfl) rfl
  refine wp_region_inv2 (by kernel_rfl) hlow (Inv 21 lfD a0 (fun l a w => S w ∧ Kept2 21 lfD a0 l a) (fun _ => lfF b9 b10 mn mx xa xb SS pp f1 f2)) (Inv.start ⟨hS, kept2_start _ _ _⟩) ?_ ?_
  · intro l i o a w ho hl hcl hdep hI
    have hi : i < 21 := by rw [← hsz]; exact (Array.getElem?_eq_some_iff.1 ho).1
    have ev : ∀ (s : Nat), a.eval (.tmp s) = a.tmps.getD s undef := fun _ => rfl
    have evf : ∀ f, a.eval (.func f) = .func (.func f) #[] #[] := fun _ => rfl
    have evc : ∀ c : Value, a.eval (.const c) = c := fun _ => rfl
    have inj : ∀ d, lfD i = some d → ∀ j d', j < 21 → lfD j = some d' → j ≠ i → d' ≠ d := fun d hd j d' hj hd' hne e => hne (lfD_inj j hj i hi (by rw [hd', hd, e]) (by rw [hd']; simp))
    have kp : ∀ s, (∀ i, i < 21 → lfD i ≠ some s) → a.tmps.getD s undef = a0.tmps.getD s undef := hI.kept
    have hw : S w := hI.world.1
    have k2 := hI.world.2
    have ex0 := hI.world.2
    have go : ∀ {d : Nat} {v : Value} {w' : World}, lfD i = some d → Below w.heap.size w w' → S w' → lfF b9 b10 mn mx xa xb SS pp f1 f2 i v w' → Inv 21 lfD a0 (fun l a w => S w ∧ Kept2 21 lfD a0 l a) (fun _ => lfF b9 b10 mn mx xa xb SS pp f1 f2) (fun j => l j || j == i) (a.put (some d) v) w' := by
      intro d v w' hD hb hS' hF
      exact hI.put hi hD (Nat.lt_of_lt_of_le (lfD_lt i hi d hD) hs) (inj d hD) ⟨hS', k2.put hD (by rw [hI.size]; exact Nat.lt_of_lt_of_le (lfD_lt i hi d hD) hs) hi⟩ hF (fun j u _ _ _ hf => lfF_below hf hb)
    rcases (show i = 0 ∨ i = 1 ∨ i = 2 ∨ i = 3 ∨ i = 4 ∨ i = 5 ∨ i = 6 ∨ i = 7 ∨ i = 8 ∨ i = 9 ∨ i = 10 ∨ i = 11 ∨ i = 12 ∨ i = 13 ∨ i = 14 ∨ i = 15 ∨ i = 16 ∨ i = 17 ∨ i = 18 ∨ i = 19 ∨ i = 20 by omega) with rfl | rfl | rfl | rfl | rfl | rfl | rfl | rfl | rfl | rfl | rfl | rfl | rfl | rfl | rfl | rfl | rfl | rfl | rfl | rfl | rfl
    · obtain ⟨o', e1, e2, e3, e4, e5⟩ := o0
      obtain rfl := Option.some.inj (ho.symm.trans e1)
      have dp := dep_of' e5 hdep
      have U9 : a.tmps.getD 9 undef = .pointer (some ⟨b9, 0, none⟩) := (kp 9 (by decide)).trans u9
      exact wpOp_value (v := .agg #[.slice xa mn mn, .int .i64 SS, .bool false]) (w' := w) ho e4 (by simp [execOp, e3, ev, evc, U9, x0 w hw]) (by rw [e2]; exact go rfl (Below.refl _ _) hw rfl)
    · obtain ⟨o', e1, e2, e3, e4, e5⟩ := o1
      obtain rfl := Option.some.inj (ho.symm.trans e1)
      have dp := dep_of' e5 hdep
      have U3 : a.tmps.getD 3 undef = .int .i64 pp := (kp 3 (by decide)).trans u3
      exact wpOp_value (v := .int .i64 pp) (w' := w) ho e4 (by simp [execOp, e3, ev, evc, U3]) (by rw [e2]; exact go rfl (Below.refl _ _) hw rfl)
    · obtain ⟨o', e1, e2, e3, e4, e5⟩ := o2
      obtain rfl := Option.some.inj (ho.symm.trans e1)
      have dp := dep_of' e5 hdep
      have V0 : a.tmps.getD 36 undef = .agg #[.slice xa mn mn, .int .i64 SS, .bool false] := hI.val 0 36 (by decide) rfl (dp 0 (by decide))
      have V1 : a.tmps.getD 37 undef = .int .i64 pp := hI.val 1 37 (by decide) rfl (dp 1 (by decide))
      refine wpOp_call (f := 15) (args := #[.agg #[.slice xa mn mn, .int .i64 SS, .bool false], .int .i64 pp]) ho e4 (by simp [execOp, e3, resolve, invoke, Deferred.ofValue, r15, ev, evf, evc, V0, V1]) ((x2 w hw).mono ?_)
      rintro e W' ⟨rfl, hb6, hs6⟩
      refine ⟨_, rfl, ?_⟩
      rw [e2]
      exact go rfl hb6 hs6 rfl
    · obtain ⟨o', e1, e2, e3, e4, e5⟩ := o3
      obtain rfl := Option.some.inj (ho.symm.trans e1)
      have dp := dep_of' e5 hdep
      have U10 : a.tmps.getD 10 undef = .pointer (some ⟨b10, 0, none⟩) := (kp 10 (by decide)).trans u10
      exact wpOp_value (v := .agg #[.slice xb mx mx, .int .i64 SS, .bool false]) (w' := w) ho e4 (by simp [execOp, e3, ev, evc, U10, x3 w hw]) (by rw [e2]; exact go rfl (Below.refl _ _) hw rfl)
    · obtain ⟨o', e1, e2, e3, e4, e5⟩ := o4
      obtain rfl := Option.some.inj (ho.symm.trans e1)
      have dp := dep_of' e5 hdep
      have U3 : a.tmps.getD 3 undef = .int .i64 pp := (kp 3 (by decide)).trans u3
      exact wpOp_value (v := .int .i64 pp) (w' := w) ho e4 (by simp [execOp, e3, ev, evc, U3]) (by rw [e2]; exact go rfl (Below.refl _ _) hw rfl)
    · obtain ⟨o', e1, e2, e3, e4, e5⟩ := o5
      obtain rfl := Option.some.inj (ho.symm.trans e1)
      have dp := dep_of' e5 hdep
      have V3 : a.tmps.getD 39 undef = .agg #[.slice xb mx mx, .int .i64 SS, .bool false] := hI.val 3 39 (by decide) rfl (dp 3 (by decide))
      have V4 : a.tmps.getD 40 undef = .int .i64 pp := hI.val 4 40 (by decide) rfl (dp 4 (by decide))
      refine wpOp_call (f := 15) (args := #[.agg #[.slice xb mx mx, .int .i64 SS, .bool false], .int .i64 pp]) ho e4 (by simp [execOp, e3, resolve, invoke, Deferred.ofValue, r15, ev, evf, evc, V3, V4]) ((x5 w hw).mono ?_)
      rintro e W' ⟨rfl, hb6, hs6⟩
      refine ⟨_, rfl, ?_⟩
      rw [e2]
      exact go rfl hb6 hs6 rfl
    · obtain ⟨o', e1, e2, e3, e4, e5⟩ := o6
      obtain rfl := Option.some.inj (ho.symm.trans e1)
      have dp := dep_of' e5 hdep
      have V2 : a.tmps.getD 38 undef = .int .i64 f1 := hI.val 2 38 (by decide) rfl (dp 2 (by decide))
      have V5 : a.tmps.getD 41 undef = .int .i64 f2 := hI.val 5 41 (by decide) rfl (dp 5 (by decide))
      exact wpOp_value (v := .bool true) (w' := w) ho e4 (by simp [execOp, e3, ev, evc, V2, V5, x6 w, eqGuard]) (by rw [e2]; exact go rfl (Below.refl _ _) hw rfl)
    · obtain ⟨o', e1, e2, e3, e4, e5⟩ := o7
      obtain rfl := Option.some.inj (ho.symm.trans e1)
      have dp := dep_of' e5 hdep
      have V6 : a.tmps.getD 42 undef = .bool true := hI.val 6 42 (by decide) rfl (dp 6 (by decide))
      exact wpOp_value (v := .bool true) (w' := w) ho e4 (by simp [execOp, e3, ev, evc, V6]) (by rw [e2]; exact go rfl (Below.refl _ _) hw rfl)
    · obtain ⟨o', e1, e2, e3, e4, e5⟩ := o8
      obtain rfl := Option.some.inj (ho.symm.trans e1)
      have dp := dep_of' e5 hdep
      have V7 : a.tmps.getD 43 undef = .bool true := hI.val 7 43 (by decide) rfl (dp 7 (by decide))
      have U9 : a.tmps.getD 9 undef = .pointer (some ⟨b9, 0, none⟩) := (kp 9 (by decide)).trans u9
      obtain ⟨og, g1, g2, -, -, -⟩ := o7
      exact wpOp_value_b (v := .agg #[.slice xa mn mn, .int .i64 SS, .bool false]) (w' := w) ho e4 g1 g2 (by rw [hI.size]; exact Nat.lt_of_lt_of_le (by decide) hs) V7 (by simp [execOp, e3, ev, evc, V7, U9, x8 w hw]) (by rw [e2]; exact go rfl (Below.refl _ _) hw rfl)
    · obtain ⟨o', e1, e2, e3, e4, e5⟩ := o9
      obtain rfl := Option.some.inj (ho.symm.trans e1)
      have dp := dep_of' e5 hdep
      have V7 : a.tmps.getD 43 undef = .bool true := hI.val 7 43 (by decide) rfl (dp 7 (by decide))
      have V8 : a.tmps.getD 44 undef = .agg #[.slice xa mn mn, .int .i64 SS, .bool false] := hI.val 8 44 (by decide) rfl (dp 8 (by decide))
      obtain ⟨og, g1, g2, -, -, -⟩ := o7
      refine wpOp_call_b (f := 15) (args := #[.agg #[.slice xa mn mn, .int .i64 SS, .bool false], .int .i64 0]) ho e4 g1 g2 (by rw [hI.size]; exact Nat.lt_of_lt_of_le (by decide) hs) V7 (by simp [execOp, e3, resolve, invoke, Deferred.ofValue, r15, ev, evf, evc, V7, V8]) ((x9 w hw).mono ?_)
      rintro e W' ⟨rfl, hb6, hs6⟩
      refine ⟨_, rfl, ?_⟩
      rw [e2]
      exact go rfl hb6 hs6 rfl
    · obtain ⟨o', e1, e2, e3, e4, e5⟩ := o10
      obtain rfl := Option.some.inj (ho.symm.trans e1)
      have dp := dep_of' e5 hdep
      have V7 : a.tmps.getD 43 undef = .bool true := hI.val 7 43 (by decide) rfl (dp 7 (by decide))
      have U0 : a.tmps.getD 0 undef = .int .i64 SS := (kp 0 (by decide)).trans u0
      obtain ⟨og, g1, g2, -, -, -⟩ := o7
      exact wpOp_value_b (v := .int .i64 SS) (w' := w) ho e4 g1 g2 (by rw [hI.size]; exact Nat.lt_of_lt_of_le (by decide) hs) V7 (by simp [execOp, e3, ev, evc, V7, U0]) (by rw [e2]; exact go rfl (Below.refl _ _) hw rfl)
    · obtain ⟨o', e1, e2, e3, e4, e5⟩ := o11
      obtain rfl := Option.some.inj (ho.symm.trans e1)
      have dp := dep_of' e5 hdep
      have V7 : a.tmps.getD 43 undef = .bool true := hI.val 7 43 (by decide) rfl (dp 7 (by decide))
      have V9 : a.tmps.getD 45 undef = .int .i64 SS := hI.val 9 45 (by decide) rfl (dp 9 (by decide))
      have V10 : a.tmps.getD 46 undef = .int .i64 SS := hI.val 10 46 (by decide) rfl (dp 10 (by decide))
      obtain ⟨og, g1, g2, -, -, -⟩ := o7
      exact wpOp_value_b (v := .bool true) (w' := w) ho e4 g1 g2 (by rw [hI.size]; exact Nat.lt_of_lt_of_le (by decide) hs) V7 (by simp [execOp, e3, ev, evc, V7, V9, V10, x11 w, eqGuard]) (by rw [e2]; exact go rfl (Below.refl _ _) hw rfl)
    · obtain ⟨o', e1, e2, e3, e4, e5⟩ := o12
      obtain rfl := Option.some.inj (ho.symm.trans e1)
      have dp := dep_of' e5 hdep
      have V7 : a.tmps.getD 43 undef = .bool true := hI.val 7 43 (by decide) rfl (dp 7 (by decide))
      have V11 : a.tmps.getD 47 undef = .bool true := hI.val 11 47 (by decide) rfl (dp 11 (by decide))
      exact wpOp_value (v := .bool true) (w' := w) ho e4 (by simp [execOp, e3, ev, evc, V7, V11, asBool]) (by rw [e2]; exact go rfl (Below.refl _ _) hw rfl)
    · obtain ⟨o', e1, e2, e3, e4, e5⟩ := o13
      obtain rfl := Option.some.inj (ho.symm.trans e1)
      have dp := dep_of' e5 hdep
      have V12 : a.tmps.getD 48 undef = .bool true := hI.val 12 48 (by decide) rfl (dp 12 (by decide))
      exact wpOp_value (v := .bool true) (w' := w) ho e4 (by simp [execOp, e3, ev, evc, V12]) (by rw [e2]; exact go rfl (Below.refl _ _) hw rfl)
    · obtain ⟨o', e1, e2, e3, e4, e5⟩ := o14
      obtain rfl := Option.some.inj (ho.symm.trans e1)
      have dp := dep_of' e5 hdep
      have V13 : a.tmps.getD 49 undef = .bool true := hI.val 13 49 (by decide) rfl (dp 13 (by decide))
      have U9 : a.tmps.getD 9 undef = .pointer (some ⟨b9, 0, none⟩) := (kp 9 (by decide)).trans u9
      obtain ⟨og, g1, g2, -, -, -⟩ := o13
      exact wpOp_value_b (v := .agg #[.slice xa mn mn, .int .i64 SS, .bool false]) (w' := w) ho e4 g1 g2 (by rw [hI.size]; exact Nat.lt_of_lt_of_le (by decide) hs) V13 (by simp [execOp, e3, ev, evc, V13, U9, x14 w hw]) (by rw [e2]; exact go rfl (Below.refl _ _) hw rfl)
    · obtain ⟨o', e1, e2, e3, e4, e5⟩ := o15
      obtain rfl := Option.some.inj (ho.symm.trans e1)
      have dp := dep_of' e5 hdep
      have V13 : a.tmps.getD 49 undef = .bool true := hI.val 13 49 (by decide) rfl (dp 13 (by decide))
      have U3 : a.tmps.getD 3 undef = .int .i64 pp := (kp 3 (by decide)).trans u3
      obtain ⟨og, g1, g2, -, -, -⟩ := o13
      exact wpOp_value_b (v := .int .i64 pp) (w' := w) ho e4 g1 g2 (by rw [hI.size]; exact Nat.lt_of_lt_of_le (by decide) hs) V13 (by simp [execOp, e3, ev, evc, V13, U3]) (by rw [e2]; exact go rfl (Below.refl _ _) hw rfl)
    · obtain ⟨o', e1, e2, e3, e4, e5⟩ := o16
      obtain rfl := Option.some.inj (ho.symm.trans e1)
      have dp := dep_of' e5 hdep
      have V13 : a.tmps.getD 49 undef = .bool true := hI.val 13 49 (by decide) rfl (dp 13 (by decide))
      have V14 : a.tmps.getD 50 undef = .agg #[.slice xa mn mn, .int .i64 SS, .bool false] := hI.val 14 50 (by decide) rfl (dp 14 (by decide))
      have V15 : a.tmps.getD 51 undef = .int .i64 pp := hI.val 15 51 (by decide) rfl (dp 15 (by decide))
      obtain ⟨og, g1, g2, -, -, -⟩ := o13
      refine wpOp_call_b (f := 15) (args := #[.agg #[.slice xa mn mn, .int .i64 SS, .bool false], .int .i64 pp]) ho e4 g1 g2 (by rw [hI.size]; exact Nat.lt_of_lt_of_le (by decide) hs) V13 (by simp [execOp, e3, resolve, invoke, Deferred.ofValue, r15, ev, evf, evc, V13, V14, V15]) ((x16 w hw).mono ?_)
      rintro e W' ⟨rfl, hb6, hs6⟩
      refine ⟨_, rfl, ?_⟩
      rw [e2]
      exact go rfl hb6 hs6 rfl
    · obtain ⟨o', e1, e2, e3, e4, e5⟩ := o17
      obtain rfl := Option.some.inj (ho.symm.trans e1)
      have dp := dep_of' e5 hdep
      have V13 : a.tmps.getD 49 undef = .bool true := hI.val 13 49 (by decide) rfl (dp 13 (by decide))
      have U0 : a.tmps.getD 0 undef = .int .i64 SS := (kp 0 (by decide)).trans u0
      obtain ⟨og, g1, g2, -, -, -⟩ := o13
      exact wpOp_value_b (v := .int .i64 SS) (w' := w) ho e4 g1 g2 (by rw [hI.size]; exact Nat.lt_of_lt_of_le (by decide) hs) V13 (by simp [execOp, e3, ev, evc, V13, U0]) (by rw [e2]; exact go rfl (Below.refl _ _) hw rfl)
    · obtain ⟨o', e1, e2, e3, e4, e5⟩ := o18
      obtain rfl := Option.some.inj (ho.symm.trans e1)
      have dp := dep_of' e5 hdep
      have V13 : a.tmps.getD 49 undef = .bool true := hI.val 13 49 (by decide) rfl (dp 13 (by decide))
      have V16 : a.tmps.getD 52 undef = .int .i64 f1 := hI.val 16 52 (by decide) rfl (dp 16 (by decide))
      have V17 : a.tmps.getD 53 undef = .int .i64 SS := hI.val 17 53 (by decide) rfl (dp 17 (by decide))
      obtain ⟨og, g1, g2, -, -, -⟩ := o13
      exact wpOp_value_b (v := .bool true) (w' := w) ho e4 g1 g2 (by rw [hI.size]; exact Nat.lt_of_lt_of_le (by decide) hs) V13 (by simp [execOp, e3, ev, evc, V13, V16, V17, x18 w, eqGuard]) (by rw [e2]; exact go rfl (Below.refl _ _) hw rfl)
    · obtain ⟨o', e1, e2, e3, e4, e5⟩ := o19
      obtain rfl := Option.some.inj (ho.symm.trans e1)
      have dp := dep_of' e5 hdep
      have V13 : a.tmps.getD 49 undef = .bool true := hI.val 13 49 (by decide) rfl (dp 13 (by decide))
      have V18 : a.tmps.getD 54 undef = .bool true := hI.val 18 54 (by decide) rfl (dp 18 (by decide))
      exact wpOp_value (v := .bool true) (w' := w) ho e4 (by simp [execOp, e3, ev, evc, V13, V18, asBool]) (by rw [e2]; exact go rfl (Below.refl _ _) hw rfl)
    · obtain ⟨o', e1, e2, e3, e4, e5⟩ := o20
      obtain rfl := Option.some.inj (ho.symm.trans e1)
      have dp := dep_of' e5 hdep
      have V19 : a.tmps.getD 55 undef = .bool true := hI.val 19 55 (by decide) rfl (dp 19 (by decide))
      exact wpOp_value (v := .bool true) (w' := w) ho e4 (by simp [execOp, e3, ev, evc, V19]) (by rw [e2]; exact go rfl (Below.refl _ _) hw rfl)
  · intro l a w hall hI
    have all : ∀ j, j < 21 → l j = true := fun j hj => hall j (by rw [hsz]; exact hj)
    exact fin a w hI.size hI.defers hI.kept hI.world.1 (fun i d hi hD => hI.val i d hi hD (all i hi))

end Go.Proofs.Yteeljnibglnflaa
