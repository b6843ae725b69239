/- A region that holds two answers side by side, whatever the order. -/
import Derived.Test.YteeljnibglnflaaRows
import Derived.Test.YteeljnibglnflaaView
import Derived.Test.YteeljnibglnflaaGInvIn
import Derived.Test.YteeljnibglnflaaBmReg
import Derived.Test.YteeljnibglnflaaBmZ
import Derived.Test.YteeljnibglnflaaBmAt
import Derived.Test.YteeljnibglnflaaBmSwap
import Derived.Test.YteeljnibglnflaaBmBox
import Derived.Test.YteeljnibglnflaaBmRegG
import Derived.WalkKit
import Derived.ProofKit
import Derived.OpenShut
import Derived.WalkLawsBesides
import Derived.Below
import Derived.Deep.QuietTactic
import Derived.BigQuiet
import Derived.Laws.AppendOwnNone
import Derived.Orders
namespace Go.Proofs.Yteeljnibglnflaa
set_option maxRecDepth 20000
open Go.ChangeShapes Go.WideShapes Go.ChangeAt Go.RowKit
set_option linter.unusedVariables false
set_option linter.unusedSimpArgs false

def wcD (i : Nat) : Option Nat := match i with | 0 => some 61 | 1 => some 62 | 2 => some 63 | 3 => some 64 | 4 => some 65 | 5 => some 66 | 6 => some 67 | 7 => some 68 | 8 => some 69 | 9 => some 70 | 10 => some 71 | 11 => some 72 | 12 => some 73 | 13 => some 74 | 14 => some 75 | 15 => some 76 | 16 => some 77 | 17 => some 78 | 18 => some 79 | 19 => some 80 | 20 => some 81 | 21 => some 82 | 22 => some 83 | 23 => some 84 | 24 => some 85 | 25 => some 86 | 26 => some 87 | 27 => some 88 | 28 => some 89 | 29 => some 90 | 30 => some 91 | 31 => some 92 | 32 => some 93 | 33 => some 94 | 34 => some 2 | _ => none
theorem wcD_inj : ∀ i, i < 35 → ∀ j, j < 35 → wcD i = wcD j → wcD i ≠ none → i = j := by decide
theorem wcD_lt : ∀ i, i < 35 → ∀ d, wcD i = some d → d < 95 := by
  intro i hi d h
  have : ∀ i, i < 35 → (wcD i).all (fun d => decide (d < 95)) = true := by decide
  have := this i hi
  rw [h] at this
  simpa using this
def wcF (qn qm yc yd zc zd : Nat) (ya yb za zb : Option Addr) (LG : Nat → Bm) (i : Nat) (q : Value) (w : World) : Prop := match i with
  | 0 => q = .int .i64 0
  | 1 => q = .bool true
  | 2 => q = .bool true
  | 3 => q = .slice za qm zc
  | 4 => q = .int .i64 (qm : Nat)
  | 5 => q = .slice ya qn yc
  | 6 => q = .int .i64 (qn : Nat)
  | 7 => q = .bool true
  | 8 => q = .bool true
  | 9 => q = .bool true
  | 10 => q = .slice zb qm zd
  | 11 => q = .int .i64 (qm : Nat)
  | 12 => q = .slice za qm zc
  | 13 => q = .int .i64 (qm : Nat)
  | 14 => q = .bool true
  | 15 => q = .bool true
  | 16 => q = .bool true
  | 17 => q = .slice ya qn yc
  | 18 => ∃ xa xc XA XC, q = .slice xa qn xc ∧ BmAt w xa qn XA XC LG
  | 19 => q = .slice za qm zc
  | 20 => q = .slice ya qn yc
  | 21 => q = .int .i64 (qn : Nat)
  | 22 => q = .slice za qn zc
  | 23 => ∃ xa xc XA XC, q = .slice xa qn xc ∧ BmAt w xa qn XA XC LG
  | 24 => q = .bool true
  | 25 => q = .bool true
  | 26 => q = .bool true
  | 27 => q = .slice yb qn yd
  | 28 => q = .slice zb qm zd
  | 29 => q = .slice ya qn yc
  | 30 => q = .int .i64 (qn : Nat)
  | 31 => q = .slice zb qn zd
  | 32 => q = .bool true
  | 33 => q = .bool true
  | 34 => q = .bool true
  | _ => True
theorem wcF_below {qn qm yc yd zc zd : Nat} {ya yb za zb : Option Addr} {LG : Nat → Bm} {i : Nat} {q : Value} {w w' : World} (h : wcF qn qm yc yd zc zd ya yb za zb LG i q w) (hb : Below w.heap.size w w') : wcF qn qm yc yd zc zd ya yb za zb LG i q w' := by
  unfold wcF at h ⊢
  split
  · exact h
  · exact h
  · exact h
  · exact h
  · exact h
  · exact h
  · exact h
  · exact h
  · exact h
  · exact h
  · exact h
  · exact h
  · exact h
  · exact h
  · exact h
  · exact h
  · exact h
  · exact h
  · obtain ⟨xa, xc, XA, XC, h1, h2⟩ := h; exact ⟨xa, xc, XA, XC, h1, h2.below hb⟩
  · exact h
  · exact h
  · exact h
  · exact h
  · obtain ⟨xa, xc, XA, XC, h1, h2⟩ := h; exact ⟨xa, xc, XA, XC, h1, h2.below hb⟩
  · exact h
  · exact h
  · exact h
  · exact h
  · exact h
  · exact h
  · exact h
  · exact h
  · exact h
  · exact h
  · exact h
  · trivial

set_option maxHeartbeats 8000000 in
theorem wc_region {id : Nat} {ops : Array Oper} {Q : Exit → Act → World → Prop} {a0 : Act} {w0 : World} (qn qm yc yd zc zd : Nat) (ya yb za zb : Option Addr) (LG : Nat → Bm) (S : World → Prop) (hlow : lowB ops = true) (hsz : ops.size = 35)
    (o0 : OpIn ops 0 (some 61) (.move (.tmp 8)) none []) (o1 : OpIn ops 1 (some 62) (.binOp .eql 30 (.tmp 61) (.const (.int .i64 0)) 30) none [0]) (o2 : OpIn ops 2 (some 63) (.move (.tmp 62)) none [1]) (o3 : OpIn ops 3 (some 64) (.move (.tmp 6)) (some (2, true)) [2]) (o4 : OpIn ops 4 (some 65) (.call { callee := .builtin .len, args := #[.tmp 64], argTypes := #[27] }) (some (2, true)) [2, 3]) (o5 : OpIn ops 5 (some 66) (.move (.tmp 3)) (some (2, true)) [2]) (o6 : OpIn ops 6 (some 67) (.call { callee := .builtin .len, args := #[.tmp 66], argTypes := #[27] }) (some (2, true)) [2, 5]) (o7 : OpIn ops 7 (some 68) (.binOp .geq 3 (.tmp 65) (.tmp 67) 3) (some (2, true)) [2, 4, 6]) (o8 : OpIn ops 8 (some 69) (.pick (.tmp 63) (.tmp 68) (.const (.bool false))) none [2, 7]) (o9 : OpIn ops 9 (some 70) (.move (.tmp 69)) none [8]) (o10 : OpIn ops 10 (some 71) (.move (.tmp 7)) (some (9, true)) [9]) (o11 : OpIn ops 11 (some 72) (.call { callee := .builtin .len, args := #[.tmp 71], argTypes := #[29] }) (some (9, true)) [9, 10]) (o12 : OpIn ops 12 (some 73) (.move (.tmp 6)) (some (9, true)) [9]) (o13 : OpIn ops 13 (some 74) (.call { callee := .builtin .len, args := #[.tmp 73], argTypes := #[27] }) (some (9, true)) [9, 12]) (o14 : OpIn ops 14 (some 75) (.binOp .eql 3 (.tmp 72) (.tmp 74) 3) (some (9, true)) [9, 11, 13]) (o15 : OpIn ops 15 (some 76) (.pick (.tmp 70) (.tmp 75) (.const (.bool false))) none [9, 14]) (o16 : OpIn ops 16 (some 77) (.move (.tmp 76)) none [15]) (o17 : OpIn ops 17 (some 78) (.move (.tmp 3)) (some (16, true)) [16]) (o18 : OpIn ops 18 (some 79) (.call { callee := .value (.func 13), args := #[.tmp 78], argTypes := #[27] }) (some (16, true)) [16, 17]) (o19 : OpIn ops 19 (some 80) (.move (.tmp 6)) (some (16, true)) [16]) (o20 : OpIn ops 20 (some 81) (.move (.tmp 3)) (some (16, true)) [16]) (o21 : OpIn ops 21 (some 82) (.call { callee := .builtin .len, args := #[.tmp 81], argTypes := #[27] }) (some (16, true)) [16, 20]) (o22 : OpIn ops 22 (some 83) (.slice 27 (.tmp 80) none (some (.tmp 82)) none) (some (16, true)) [16, 19, 21]) (o23 : OpIn ops 23 (some 84) (.call { callee := .value (.func 13), args := #[.tmp 83], argTypes := #[27] }) (some (16, true)) [16, 22]) (o24 : OpIn ops 24 (some 85) (.call { callee := .value (.func 12), args := #[.tmp 79, .tmp 84], argTypes := #[22, 22] }) (some (16, true)) [16, 18, 23]) (o25 : OpIn ops 25 (some 86) (.pick (.tmp 77) (.tmp 85) (.const (.bool false))) none [16, 24]) (o26 : OpIn ops 26 (some 87) (.move (.tmp 86)) none [25]) (o27 : OpIn ops 27 (some 88) (.move (.tmp 4)) (some (26, true)) [26]) (o28 : OpIn ops 28 (some 89) (.move (.tmp 7)) (some (26, true)) [26]) (o29 : OpIn ops 29 (some 90) (.move (.tmp 3)) (some (26, true)) [26]) (o30 : OpIn ops 30 (some 91) (.call { callee := .builtin .len, args := #[.tmp 90], argTypes := #[27] }) (some (26, true)) [26, 29]) (o31 : OpIn ops 31 (some 92) (.slice 29 (.tmp 89) none (some (.tmp 91)) none) (some (26, true)) [26, 28, 30]) (o32 : OpIn ops 32 (some 93) (.call { callee := .value (.func 14), args := #[.tmp 88, .tmp 92], argTypes := #[29, 29] }) (some (26, true)) [26, 27, 31]) (o33 : OpIn ops 33 (some 94) (.pick (.tmp 87) (.tmp 93) (.const (.bool false))) none [26, 32]) (o34 : OpIn ops 34 (some 2) (.assign (.tmp 94)) none [33])
    (hS : S w0.drew)
    (x1 : ∀ w, (binOp .eql 30 (.int .i64 0) (.int .i64 0)).run Try.prog w = .ok (.bool true) w)
    (x7 : ∀ w, (binOp .geq 3 (.int .i64 (qm : Nat)) (.int .i64 (qn : Nat))).run Try.prog w = .ok (.bool true) w)
    (x14 : ∀ w, (binOp .eql 3 (.int .i64 (qm : Nat)) (.int .i64 (qm : Nat))).run Try.prog w = .ok (.bool true) w)
    (x18 : ∀ w, S w → Calls Try.prog 13 #[.slice ya qn yc] w fun e w' => (∃ xa xc XA XC, e = .returned (.slice xa qn xc) ∧ BmAt w' xa qn XA XC LG) ∧ Below w.heap.size w w' ∧ S w')
    (x22 : ∀ w, (Instr.sliceAt 27 (.slice za qm zc) none (some (.int .i64 (qn : Nat))) none).run Try.prog w = .ok (.slice za qn zc) w)
    (x23 : ∀ w, S w → Calls Try.prog 13 #[.slice za qn zc] w fun e w' => (∃ xa xc XA XC, e = .returned (.slice xa qn xc) ∧ BmAt w' xa qn XA XC LG) ∧ Below w.heap.size w w' ∧ S w')
    (x24 : ∀ w xa xc XA XC xb xd XB XD, S w → BmAt w xa qn XA XC LG → BmAt w xb qn XB XD LG → Calls Try.prog 12 #[.slice xa qn xc, .slice xb qn xd] w fun e w' => e = .returned (.bool true) ∧ Below w.heap.size w w' ∧ S w')
    (x31 : ∀ w, (Instr.sliceAt 29 (.slice zb qm zd) none (some (.int .i64 (qn : Nat))) none).run Try.prog w = .ok (.slice zb qn zd) w)
    (x32 : ∀ w, S w → Calls Try.prog 14 #[.slice yb qn yd, .slice zb qn zd] w fun e w' => e = .returned (.bool true) ∧ Below w.heap.size w w' ∧ S w')
    (u3 : a0.tmps.getD 3 undef = .slice ya qn yc)
    (u4 : a0.tmps.getD 4 undef = .slice yb qn yd)
    (u6 : a0.tmps.getD 6 undef = .slice za qm zc)
    (u7 : a0.tmps.getD 7 undef = .slice zb qm zd)
    (u8 : a0.tmps.getD 8 undef = .int .i64 0)
    (hs : 95 ≤ a0.tmps.size)
    (fin : ∀ a w, a.tmps.size = a0.tmps.size → a.defers = a0.defers → (∀ s, (∀ i, i < 35 → wcD i ≠ some s) → a.tmps.getD s undef = a0.tmps.getD s undef) → S w → (∀ i d, i < 35 → wcD i = some d → wcF qn qm yc yd zc zd ya yb za zb LG i (a.tmps.getD d undef) w) → Q .normal a w) : (Code.region id ops true).wp Try.prog Q a0 w0 := by
  have r12 : ∀ args w, (callFunc 12 args).run Try.prog w = .ok (.enter 12 args) w := enters_of Try.func12 (by kernel_rfl) rfl
  have r13 : ∀ args w, (callFunc 13 args).run Try.prog w = .ok (.enter 13 args) w := enters_of Try.func13 (by kernel_rfl) rfl
  have r14 : ∀ args w, (callFunc 14 args).run Try.prog w = .ok (.enter 14 args) w := enters_of Try.func14 (by kernel_rfl) rfl
  refine wp_region_inv2 (by kernel_rfl) hlow (Inv 35 wcD a0 (fun l a w => S w ∧ Kept2 35 wcD a0 l a) (fun _ => wcF qn qm yc yd zc zd ya yb za zb LG)) (Inv.start ⟨hS, kept2_start _ _ _⟩) ?_ ?_
  · intro l i o a w ho hl hcl hdep hI
    have hi : i < 35 := by rw [← hsz]; exact (Array.getElem?_eq_some_iff.1 ho).1
    have ev : ∀ (s : Nat), a.eval (.tmp s) = a.tmps.getD s undef := fun _ => rfl
    have evf : ∀ f, a.eval (.func f) = .func (.func f) #[] #[] := fun _ => rfl
    have evc : ∀ c : Value, a.eval (.const c) = c := fun _ => rfl
    have inj : ∀ d, wcD i = some d → ∀ j d', j < 35 → wcD j = some d' → j ≠ i → d' ≠ d := fun d hd j d' hj hd' hne e => hne (wcD_inj j hj i hi (by rw [hd', hd, e]) (by rw [hd']; simp))
    have kp : ∀ s, (∀ i, i < 35 → wcD i ≠ some s) → a.tmps.getD s undef = a0.tmps.getD s undef := hI.kept
    have hw : S w := hI.world.1
    have k2 := hI.world.2
    have ex0 := hI.world.2
    have go : ∀ {d : Nat} {v : Value} {w' : World}, wcD i = some d → Below w.heap.size w w' → S w' → wcF qn qm yc yd zc zd ya yb za zb LG i v w' → Inv 35 wcD a0 (fun l a w => S w ∧ Kept2 35 wcD a0 l a) (fun _ => wcF qn qm yc yd zc zd ya yb za zb LG) (fun j => l j || j == i) (a.put (some d) v) w' := by
      intro d v w' hD hb hS' hF
      exact hI.put hi hD (Nat.lt_of_lt_of_le (wcD_lt i hi d hD) hs) (inj d hD) ⟨hS', k2.put hD (by rw [hI.size]; exact Nat.lt_of_lt_of_le (wcD_lt i hi d hD) hs) hi⟩ hF (fun j u _ _ _ hf => wcF_below hf hb)
    rcases (show i = 0 ∨ i = 1 ∨ i = 2 ∨ i = 3 ∨ i = 4 ∨ i = 5 ∨ i = 6 ∨ i = 7 ∨ i = 8 ∨ i = 9 ∨ i = 10 ∨ i = 11 ∨ i = 12 ∨ i = 13 ∨ i = 14 ∨ i = 15 ∨ i = 16 ∨ i = 17 ∨ i = 18 ∨ i = 19 ∨ i = 20 ∨ i = 21 ∨ i = 22 ∨ i = 23 ∨ i = 24 ∨ i = 25 ∨ i = 26 ∨ i = 27 ∨ i = 28 ∨ i = 29 ∨ i = 30 ∨ i = 31 ∨ i = 32 ∨ i = 33 ∨ i = 34 by omega) with rfl | rfl | rfl | rfl | rfl | rfl | rfl | rfl | rfl | rfl | rfl | rfl | rfl | rfl | rfl | rfl | rfl | rfl | rfl | rfl | rfl | rfl | rfl | rfl | rfl | rfl | rfl | rfl | rfl | rfl | rfl | rfl | rfl | rfl | rfl
    · obtain ⟨o', e1, e2, e3, e4, e5⟩ := o0
      obtain rfl := Option.some.inj (ho.symm.trans e1)
      have dp := dep_of' e5 hdep
      have U8 : a.tmps.getD 8 undef = .int .i64 0 := (kp 8 (by decide)).trans u8
      exact wpOp_value (v := .int .i64 0) (w' := w) ho e4 (by simp [execOp, e3, ev, evc, U8]) (by rw [e2]; exact go rfl (Below.refl _ _) hw rfl)
    · obtain ⟨o', e1, e2, e3, e4, e5⟩ := o1
      obtain rfl := Option.some.inj (ho.symm.trans e1)
      have dp := dep_of' e5 hdep
      have V0 : a.tmps.getD 61 undef = .int .i64 0 := hI.val 0 61 (by decide) rfl (dp 0 (by decide))
      exact wpOp_value (v := .bool true) (w' := w) ho e4 (by simp [execOp, e3, ev, evc, V0, x1 w, eqGuard]) (by rw [e2]; exact go rfl (Below.refl _ _) hw rfl)
    · obtain ⟨o', e1, e2, e3, e4, e5⟩ := o2
      obtain rfl := Option.some.inj (ho.symm.trans e1)
      have dp := dep_of' e5 hdep
      have V1 : a.tmps.getD 62 undef = .bool true := hI.val 1 62 (by decide) rfl (dp 1 (by decide))
      exact wpOp_value (v := .bool true) (w' := w) ho e4 (by simp [execOp, e3, ev, evc, V1]) (by rw [e2]; exact go rfl (Below.refl _ _) hw rfl)
    · obtain ⟨o', e1, e2, e3, e4, e5⟩ := o3
      obtain rfl := Option.some.inj (ho.symm.trans e1)
      have dp := dep_of' e5 hdep
      have V2 : a.tmps.getD 63 undef = .bool true := hI.val 2 63 (by decide) rfl (dp 2 (by decide))
      have U6 : a.tmps.getD 6 undef = .slice za qm zc := (kp 6 (by decide)).trans u6
      obtain ⟨og, g1, g2, -, -, -⟩ := o2
      exact wpOp_value_b (v := .slice za qm zc) (w' := w) ho e4 g1 g2 (by rw [hI.size]; exact Nat.lt_of_lt_of_le (by decide) hs) V2 (by simp [execOp, e3, ev, evc, V2, U6]) (by rw [e2]; exact go rfl (Below.refl _ _) hw rfl)
    · obtain ⟨o', e1, e2, e3, e4, e5⟩ := o4
      obtain rfl := Option.some.inj (ho.symm.trans e1)
      have dp := dep_of' e5 hdep
      have V2 : a.tmps.getD 63 undef = .bool true := hI.val 2 63 (by decide) rfl (dp 2 (by decide))
      have V3 : a.tmps.getD 64 undef = .slice za qm zc := hI.val 3 64 (by decide) rfl (dp 3 (by decide))
      obtain ⟨og, g1, g2, -, -, -⟩ := o2
      exact wpOp_value_b (v := .int .i64 (qm : Nat)) (w' := w) ho e4 g1 g2 (by rw [hI.size]; exact Nat.lt_of_lt_of_le (by decide) hs) V2 (by simp [execOp, e3, ev, evc, V2, V3, builtin, resolve, invoke, goInt, Builtin.len_, run_underlying Try.underlying27]) (by rw [e2]; exact go rfl (Below.refl _ _) hw rfl)
    · obtain ⟨o', e1, e2, e3, e4, e5⟩ := o5
      obtain rfl := Option.some.inj (ho.symm.trans e1)
      have dp := dep_of' e5 hdep
      have V2 : a.tmps.getD 63 undef = .bool true := hI.val 2 63 (by decide) rfl (dp 2 (by decide))
      have U3 : a.tmps.getD 3 undef = .slice ya qn yc := (kp 3 (by decide)).trans u3
      obtain ⟨og, g1, g2, -, -, -⟩ := o2
      exact wpOp_value_b (v := .slice ya qn yc) (w' := w) ho e4 g1 g2 (by rw [hI.size]; exact Nat.lt_of_lt_of_le (by decide) hs) V2 (by simp [execOp, e3, ev, evc, V2, U3]) (by rw [e2]; exact go rfl (Below.refl _ _) hw rfl)
    · obtain ⟨o', e1, e2, e3, e4, e5⟩ := o6
      obtain rfl := Option.some.inj (ho.symm.trans e1)
      have dp := dep_of' e5 hdep
      have V2 : a.tmps.getD 63 undef = .bool true := hI.val 2 63 (by decide) rfl (dp 2 (by decide))
      have V5 : a.tmps.getD 66 undef = .slice ya qn yc := hI.val 5 66 (by decide) rfl (dp 5 (by decide))
      obtain ⟨og, g1, g2, -, -, -⟩ := o2
      exact wpOp_value_b (v := .int .i64 (qn : Nat)) (w' := w) ho e4 g1 g2 (by rw [hI.size]; exact Nat.lt_of_lt_of_le (by decide) hs) V2 (by simp [execOp, e3, ev, evc, V2, V5, builtin, resolve, invoke, goInt, Builtin.len_, run_underlying Try.underlying27]) (by rw [e2]; exact go rfl (Below.refl _ _) hw rfl)
    · obtain ⟨o', e1, e2, e3, e4, e5⟩ := o7
      obtain rfl := Option.some.inj (ho.symm.trans e1)
      have dp := dep_of' e5 hdep
      have V2 : a.tmps.getD 63 undef = .bool true := hI.val 2 63 (by decide) rfl (dp 2 (by decide))
      have V4 : a.tmps.getD 65 undef = .int .i64 (qm : Nat) := hI.val 4 65 (by decide) rfl (dp 4 (by decide))
      have V6 : a.tmps.getD 67 undef = .int .i64 (qn : Nat) := hI.val 6 67 (by decide) rfl (dp 6 (by decide))
      obtain ⟨og, g1, g2, -, -, -⟩ := o2
      exact wpOp_value_b (v := .bool true) (w' := w) ho e4 g1 g2 (by rw [hI.size]; exact Nat.lt_of_lt_of_le (by decide) hs) V2 (by simp [execOp, e3, ev, evc, V2, V4, V6, x7 w, eqGuard]) (by rw [e2]; exact go rfl (Below.refl _ _) hw rfl)
    · obtain ⟨o', e1, e2, e3, e4, e5⟩ := o8
      obtain rfl := Option.some.inj (ho.symm.trans e1)
      have dp := dep_of' e5 hdep
      have V2 : a.tmps.getD 63 undef = .bool true := hI.val 2 63 (by decide) rfl (dp 2 (by decide))
      have V7 : a.tmps.getD 68 undef = .bool true := hI.val 7 68 (by decide) rfl (dp 7 (by decide))
      exact wpOp_value (v := .bool true) (w' := w) ho e4 (by simp [execOp, e3, ev, evc, V2, V7, asBool]) (by rw [e2]; exact go rfl (Below.refl _ _) hw rfl)
    · obtain ⟨o', e1, e2, e3, e4, e5⟩ := o9
      obtain rfl := Option.some.inj (ho.symm.trans e1)
      have dp := dep_of' e5 hdep
      have V8 : a.tmps.getD 69 undef = .bool true := hI.val 8 69 (by decide) rfl (dp 8 (by decide))
      exact wpOp_value (v := .bool true) (w' := w) ho e4 (by simp [execOp, e3, ev, evc, V8]) (by rw [e2]; exact go rfl (Below.refl _ _) hw rfl)
    · obtain ⟨o', e1, e2, e3, e4, e5⟩ := o10
      obtain rfl := Option.some.inj (ho.symm.trans e1)
      have dp := dep_of' e5 hdep
      have V9 : a.tmps.getD 70 undef = .bool true := hI.val 9 70 (by decide) rfl (dp 9 (by decide))
      have U7 : a.tmps.getD 7 undef = .slice zb qm zd := (kp 7 (by decide)).trans u7
      obtain ⟨og, g1, g2, -, -, -⟩ := o9
      exact wpOp_value_b (v := .slice zb qm zd) (w' := w) ho e4 g1 g2 (by rw [hI.size]; exact Nat.lt_of_lt_of_le (by decide) hs) V9 (by simp [execOp, e3, ev, evc, V9, U7]) (by rw [e2]; exact go rfl (Below.refl _ _) hw rfl)
    · obtain ⟨o', e1, e2, e3, e4, e5⟩ := o11
      obtain rfl := Option.some.inj (ho.symm.trans e1)
      have dp := dep_of' e5 hdep
      have V9 : a.tmps.getD 70 undef = .bool true := hI.val 9 70 (by decide) rfl (dp 9 (by decide))
      have V10 : a.tmps.getD 71 undef = .slice zb qm zd := hI.val 10 71 (by decide) rfl (dp 10 (by decide))
      obtain ⟨og, g1, g2, -, -, -⟩ := o9
      exact wpOp_value_b (v := .int .i64 (qm : Nat)) (w' := w) ho e4 g1 g2 (by rw [hI.size]; exact Nat.lt_of_lt_of_le (by decide) hs) V9 (by simp [execOp, e3, ev, evc, V9, V10, builtin, resolve, invoke, goInt, Builtin.len_, run_underlying Try.underlying29]) (by rw [e2]; exact go rfl (Below.refl _ _) hw rfl)
    · obtain ⟨o', e1, e2, e3, e4, e5⟩ := o12
      obtain rfl := Option.some.inj (ho.symm.trans e1)
      have dp := dep_of' e5 hdep
      have V9 : a.tmps.getD 70 undef = .bool true := hI.val 9 70 (by decide) rfl (dp 9 (by decide))
      have U6 : a.tmps.getD 6 undef = .slice za qm zc := (kp 6 (by decide)).trans u6
      obtain ⟨og, g1, g2, -, -, -⟩ := o9
      exact wpOp_value_b (v := .slice za qm zc) (w' := w) ho e4 g1 g2 (by rw [hI.size]; exact Nat.lt_of_lt_of_le (by decide) hs) V9 (by simp [execOp, e3, ev, evc, V9, U6]) (by rw [e2]; exact go rfl (Below.refl _ _) hw rfl)
    · obtain ⟨o', e1, e2, e3, e4, e5⟩ := o13
      obtain rfl := Option.some.inj (ho.symm.trans e1)
      have dp := dep_of' e5 hdep
      have V9 : a.tmps.getD 70 undef = .bool true := hI.val 9 70 (by decide) rfl (dp 9 (by decide))
      have V12 : a.tmps.getD 73 undef = .slice za qm zc := hI.val 12 73 (by decide) rfl (dp 12 (by decide))
      obtain ⟨og, g1, g2, -, -, -⟩ := o9
      exact wpOp_value_b (v := .int .i64 (qm : Nat)) (w' := w) ho e4 g1 g2 (by rw [hI.size]; exact Nat.lt_of_lt_of_le (by decide) hs) V9 (by simp [execOp, e3, ev, evc, V9, V12, builtin, resolve, invoke, goInt, Builtin.len_, run_underlying Try.underlying27]) (by rw [e2]; exact go rfl (Below.refl _ _) hw rfl)
    · obtain ⟨o', e1, e2, e3, e4, e5⟩ := o14
      obtain rfl := Option.some.inj (ho.symm.trans e1)
      have dp := dep_of' e5 hdep
      have V9 : a.tmps.getD 70 undef = .bool true := hI.val 9 70 (by decide) rfl (dp 9 (by decide))
      have V11 : a.tmps.getD 72 undef = .int .i64 (qm : Nat) := hI.val 11 72 (by decide) rfl (dp 11 (by decide))
      have V13 : a.tmps.getD 74 undef = .int .i64 (qm : Nat) := hI.val 13 74 (by decide) rfl (dp 13 (by decide))
      obtain ⟨og, g1, g2, -, -, -⟩ := o9
      exact wpOp_value_b (v := .bool true) (w' := w) ho e4 g1 g2 (by rw [hI.size]; exact Nat.lt_of_lt_of_le (by decide) hs) V9 (by simp [execOp, e3, ev, evc, V9, V11, V13, x14 w, eqGuard]) (by rw [e2]; exact go rfl (Below.refl _ _) hw rfl)
    · obtain ⟨o', e1, e2, e3, e4, e5⟩ := o15
      obtain rfl := Option.some.inj (ho.symm.trans e1)
      have dp := dep_of' e5 hdep
      have V9 : a.tmps.getD 70 undef = .bool true := hI.val 9 70 (by decide) rfl (dp 9 (by decide))
      have V14 : a.tmps.getD 75 undef = .bool true := hI.val 14 75 (by decide) rfl (dp 14 (by decide))
      exact wpOp_value (v := .bool true) (w' := w) ho e4 (by simp [execOp, e3, ev, evc, V9, V14, asBool]) (by rw [e2]; exact go rfl (Below.refl _ _) hw rfl)
    · obtain ⟨o', e1, e2, e3, e4, e5⟩ := o16
      obtain rfl := Option.some.inj (ho.symm.trans e1)
      have dp := dep_of' e5 hdep
      have V15 : a.tmps.getD 76 undef = .bool true := hI.val 15 76 (by decide) rfl (dp 15 (by decide))
      exact wpOp_value (v := .bool true) (w' := w) ho e4 (by simp [execOp, e3, ev, evc, V15]) (by rw [e2]; exact go rfl (Below.refl _ _) hw rfl)
    · obtain ⟨o', e1, e2, e3, e4, e5⟩ := o17
      obtain rfl := Option.some.inj (ho.symm.trans e1)
      have dp := dep_of' e5 hdep
      have V16 : a.tmps.getD 77 undef = .bool true := hI.val 16 77 (by decide) rfl (dp 16 (by decide))
      have U3 : a.tmps.getD 3 undef = .slice ya qn yc := (kp 3 (by decide)).trans u3
      obtain ⟨og, g1, g2, -, -, -⟩ := o16
      exact wpOp_value_b (v := .slice ya qn yc) (w' := w) ho e4 g1 g2 (by rw [hI.size]; exact Nat.lt_of_lt_of_le (by decide) hs) V16 (by simp [execOp, e3, ev, evc, V16, U3]) (by rw [e2]; exact go rfl (Below.refl _ _) hw rfl)
    · obtain ⟨o', e1, e2, e3, e4, e5⟩ := o18
      obtain rfl := Option.some.inj (ho.symm.trans e1)
      have dp := dep_of' e5 hdep
      have V16 : a.tmps.getD 77 undef = .bool true := hI.val 16 77 (by decide) rfl (dp 16 (by decide))
      have V17 : a.tmps.getD 78 undef = .slice ya qn yc := hI.val 17 78 (by decide) rfl (dp 17 (by decide))
      obtain ⟨og, g1, g2, -, -, -⟩ := o16
      refine wpOp_call_b (f := 13) (args := #[.slice ya qn yc]) ho e4 g1 g2 (by rw [hI.size]; exact Nat.lt_of_lt_of_le (by decide) hs) V16 (by simp [execOp, e3, resolve, invoke, Deferred.ofValue, r13, ev, evf, evc, V16, V17]) ((x18 w hw).mono ?_)
      rintro e W' ⟨⟨xa, xc, XA, XC, rfl, h1⟩, hb6, hs6⟩
      refine ⟨_, rfl, ?_⟩
      rw [e2]
      exact go rfl hb6 hs6 ⟨xa, xc, XA, XC, rfl, h1⟩
    · obtain ⟨o', e1, e2, e3, e4, e5⟩ := o19
      obtain rfl := Option.some.inj (ho.symm.trans e1)
      have dp := dep_of' e5 hdep
      have V16 : a.tmps.getD 77 undef = .bool true := hI.val 16 77 (by decide) rfl (dp 16 (by decide))
      have U6 : a.tmps.getD 6 undef = .slice za qm zc := (kp 6 (by decide)).trans u6
      obtain ⟨og, g1, g2, -, -, -⟩ := o16
      exact wpOp_value_b (v := .slice za qm zc) (w' := w) ho e4 g1 g2 (by rw [hI.size]; exact Nat.lt_of_lt_of_le (by decide) hs) V16 (by simp [execOp, e3, ev, evc, V16, U6]) (by rw [e2]; exact go rfl (Below.refl _ _) hw rfl)
    · obtain ⟨o', e1, e2, e3, e4, e5⟩ := o20
      obtain rfl := Option.some.inj (ho.symm.trans e1)
      have dp := dep_of' e5 hdep
      have V16 : a.tmps.getD 77 undef = .bool true := hI.val 16 77 (by decide) rfl (dp 16 (by decide))
      have U3 : a.tmps.getD 3 undef = .slice ya qn yc := (kp 3 (by decide)).trans u3
      obtain ⟨og, g1, g2, -, -, -⟩ := o16
      exact wpOp_value_b (v := .slice ya qn yc) (w' := w) ho e4 g1 g2 (by rw [hI.size]; exact Nat.lt_of_lt_of_le (by decide) hs) V16 (by simp [execOp, e3, ev, evc, V16, U3]) (by rw [e2]; exact go rfl (Below.refl _ _) hw rfl)
    · obtain ⟨o', e1, e2, e3, e4, e5⟩ := o21
      obtain rfl := Option.some.inj (ho.symm.trans e1)
      have dp := dep_of' e5 hdep
      have V16 : a.tmps.getD 77 undef = .bool true := hI.val 16 77 (by decide) rfl (dp 16 (by decide))
      have V20 : a.tmps.getD 81 undef = .slice ya qn yc := hI.val 20 81 (by decide) rfl (dp 20 (by decide))
      obtain ⟨og, g1, g2, -, -, -⟩ := o16
      exact wpOp_value_b (v := .int .i64 (qn : Nat)) (w' := w) ho e4 g1 g2 (by rw [hI.size]; exact Nat.lt_of_lt_of_le (by decide) hs) V16 (by simp [execOp, e3, ev, evc, V16, V20, builtin, resolve, invoke, goInt, Builtin.len_, run_underlying Try.underlying27]) (by rw [e2]; exact go rfl (Below.refl _ _) hw rfl)
    · obtain ⟨o', e1, e2, e3, e4, e5⟩ := o22
      obtain rfl := Option.some.inj (ho.symm.trans e1)
      have dp := dep_of' e5 hdep
      have V16 : a.tmps.getD 77 undef = .bool true := hI.val 16 77 (by decide) rfl (dp 16 (by decide))
      have V19 : a.tmps.getD 80 undef = .slice za qm zc := hI.val 19 80 (by decide) rfl (dp 19 (by decide))
      have V21 : a.tmps.getD 82 undef = .int .i64 (qn : Nat) := hI.val 21 82 (by decide) rfl (dp 21 (by decide))
      obtain ⟨og, g1, g2, -, -, -⟩ := o16
      exact wpOp_value_b (v := .slice za qn zc) (w' := w) ho e4 g1 g2 (by rw [hI.size]; exact Nat.lt_of_lt_of_le (by decide) hs) V16 (by simp [execOp, e3, ev, evc, V16, V19, V21, x22 w]) (by rw [e2]; exact go rfl (Below.refl _ _) hw rfl)
    · obtain ⟨o', e1, e2, e3, e4, e5⟩ := o23
      obtain rfl := Option.some.inj (ho.symm.trans e1)
      have dp := dep_of' e5 hdep
      have V16 : a.tmps.getD 77 undef = .bool true := hI.val 16 77 (by decide) rfl (dp 16 (by decide))
      have V22 : a.tmps.getD 83 undef = .slice za qn zc := hI.val 22 83 (by decide) rfl (dp 22 (by decide))
      obtain ⟨og, g1, g2, -, -, -⟩ := o16
      refine wpOp_call_b (f := 13) (args := #[.slice za qn zc]) ho e4 g1 g2 (by rw [hI.size]; exact Nat.lt_of_lt_of_le (by decide) hs) V16 (by simp [execOp, e3, resolve, invoke, Deferred.ofValue, r13, ev, evf, evc, V16, V22]) ((x23 w hw).mono ?_)
      rintro e W' ⟨⟨xa, xc, XA, XC, rfl, h1⟩, hb6, hs6⟩
      refine ⟨_, rfl, ?_⟩
      rw [e2]
      exact go rfl hb6 hs6 ⟨xa, xc, XA, XC, rfl, h1⟩
    · obtain ⟨o', e1, e2, e3, e4, e5⟩ := o24
      obtain rfl := Option.some.inj (ho.symm.trans e1)
      have dp := dep_of' e5 hdep
      have V16 : a.tmps.getD 77 undef = .bool true := hI.val 16 77 (by decide) rfl (dp 16 (by decide))
      obtain ⟨xa18, xc18, XA18, XC18, V18, f18⟩ : ∃ xa xc XA XC, a.tmps.getD 79 undef = .slice xa qn xc ∧ BmAt w xa qn XA XC LG := hI.val 18 79 (by decide) rfl (dp 18 (by decide))
      obtain ⟨xa23, xc23, XA23, XC23, V23, f23⟩ : ∃ xa xc XA XC, a.tmps.getD 84 undef = .slice xa qn xc ∧ BmAt w xa qn XA XC LG := hI.val 23 84 (by decide) rfl (dp 23 (by decide))
      obtain ⟨og, g1, g2, -, -, -⟩ := o16
      refine wpOp_call_b (f := 12) (args := #[.slice xa18 qn xc18, .slice xa23 qn xc23]) ho e4 g1 g2 (by rw [hI.size]; exact Nat.lt_of_lt_of_le (by decide) hs) V16 (by simp [execOp, e3, resolve, invoke, Deferred.ofValue, r12, ev, evf, evc, V16, V18, V23]) ((x24 w xa18 xc18 XA18 XC18 xa23 xc23 XA23 XC23 hw f18 f23).mono ?_)
      rintro e W' ⟨rfl, hb6, hs6⟩
      refine ⟨_, rfl, ?_⟩
      rw [e2]
      exact go rfl hb6 hs6 rfl
    · obtain ⟨o', e1, e2, e3, e4, e5⟩ := o25
      obtain rfl := Option.some.inj (ho.symm.trans e1)
      have dp := dep_of' e5 hdep
      have V16 : a.tmps.getD 77 undef = .bool true := hI.val 16 77 (by decide) rfl (dp 16 (by decide))
      have V24 : a.tmps.getD 85 undef = .bool true := hI.val 24 85 (by decide) rfl (dp 24 (by decide))
      exact wpOp_value (v := .bool true) (w' := w) ho e4 (by simp [execOp, e3, ev, evc, V16, V24, asBool]) (by rw [e2]; exact go rfl (Below.refl _ _) hw rfl)
    · obtain ⟨o', e1, e2, e3, e4, e5⟩ := o26
      obtain rfl := Option.some.inj (ho.symm.trans e1)
      have dp := dep_of' e5 hdep
      have V25 : a.tmps.getD 86 undef = .bool true := hI.val 25 86 (by decide) rfl (dp 25 (by decide))
      exact wpOp_value (v := .bool true) (w' := w) ho e4 (by simp [execOp, e3, ev, evc, V25]) (by rw [e2]; exact go rfl (Below.refl _ _) hw rfl)
    · obtain ⟨o', e1, e2, e3, e4, e5⟩ := o27
      obtain rfl := Option.some.inj (ho.symm.trans e1)
      have dp := dep_of' e5 hdep
      have V26 : a.tmps.getD 87 undef = .bool true := hI.val 26 87 (by decide) rfl (dp 26 (by decide))
      have U4 : a.tmps.getD 4 undef = .slice yb qn yd := (kp 4 (by decide)).trans u4
      obtain ⟨og, g1, g2, -, -, -⟩ := o26
      exact wpOp_value_b (v := .slice yb qn yd) (w' := w) ho e4 g1 g2 (by rw [hI.size]; exact Nat.lt_of_lt_of_le (by decide) hs) V26 (by simp [execOp, e3, ev, evc, V26, U4]) (by rw [e2]; exact go rfl (Below.refl _ _) hw rfl)
    · obtain ⟨o', e1, e2, e3, e4, e5⟩ := o28
      obtain rfl := Option.some.inj (ho.symm.trans e1)
      have dp := dep_of' e5 hdep
      have V26 : a.tmps.getD 87 undef = .bool true := hI.val 26 87 (by decide) rfl (dp 26 (by decide))
      have U7 : a.tmps.getD 7 undef = .slice zb qm zd := (kp 7 (by decide)).trans u7
      obtain ⟨og, g1, g2, -, -, -⟩ := o26
      exact wpOp_value_b (v := .slice zb qm zd) (w' := w) ho e4 g1 g2 (by rw [hI.size]; exact Nat.lt_of_lt_of_le (by decide) hs) V26 (by simp [execOp, e3, ev, evc, V26, U7]) (by rw [e2]; exact go rfl (Below.refl _ _) hw rfl)
    · obtain ⟨o', e1, e2, e3, e4, e5⟩ := o29
      obtain rfl := Option.some.inj (ho.symm.trans e1)
      have dp := dep_of' e5 hdep
      have V26 : a.tmps.getD 87 undef = .bool true := hI.val 26 87 (by decide) rfl (dp 26 (by decide))
      have U3 : a.tmps.getD 3 undef = .slice ya qn yc := (kp 3 (by decide)).trans u3
      obtain ⟨og, g1, g2, -, -, -⟩ := o26
      exact wpOp_value_b (v := .slice ya qn yc) (w' := w) ho e4 g1 g2 (by rw [hI.size]; exact Nat.lt_of_lt_of_le (by decide) hs) V26 (by simp [execOp, e3, ev, evc, V26, U3]) (by rw [e2]; exact go rfl (Below.refl _ _) hw rfl)
    · obtain ⟨o', e1, e2, e3, e4, e5⟩ := o30
      obtain rfl := Option.some.inj (ho.symm.trans e1)
      have dp := dep_of' e5 hdep
      have V26 : a.tmps.getD 87 undef = .bool true := hI.val 26 87 (by decide) rfl (dp 26 (by decide))
      have V29 : a.tmps.getD 90 undef = .slice ya qn yc := hI.val 29 90 (by decide) rfl (dp 29 (by decide))
      obtain ⟨og, g1, g2, -, -, -⟩ := o26
      exact wpOp_value_b (v := .int .i64 (qn : Nat)) (w' := w) ho e4 g1 g2 (by rw [hI.size]; exact Nat.lt_of_lt_of_le (by decide) hs) V26 (by simp [execOp, e3, ev, evc, V26, V29, builtin, resolve, invoke, goInt, Builtin.len_, run_underlying Try.underlying27]) (by rw [e2]; exact go rfl (Below.refl _ _) hw rfl)
    · obtain ⟨o', e1, e2, e3, e4, e5⟩ := o31
      obtain rfl := Option.some.inj (ho.symm.trans e1)
      have dp := dep_of' e5 hdep
      have V26 : a.tmps.getD 87 undef = .bool true := hI.val 26 87 (by decide) rfl (dp 26 (by decide))
      have V28 : a.tmps.getD 89 undef = .slice zb qm zd := hI.val 28 89 (by decide) rfl (dp 28 (by decide))
      have V30 : a.tmps.getD 91 undef = .int .i64 (qn : Nat) := hI.val 30 91 (by decide) rfl (dp 30 (by decide))
      obtain ⟨og, g1, g2, -, -, -⟩ := o26
      exact wpOp_value_b (v := .slice zb qn zd) (w' := w) ho e4 g1 g2 (by rw [hI.size]; exact Nat.lt_of_lt_of_le (by decide) hs) V26 (by simp [execOp, e3, ev, evc, V26, V28, V30, x31 w]) (by rw [e2]; exact go rfl (Below.refl _ _) hw rfl)
    · obtain ⟨o', e1, e2, e3, e4, e5⟩ := o32
      obtain rfl := Option.some.inj (ho.symm.trans e1)
      have dp := dep_of' e5 hdep
      have V26 : a.tmps.getD 87 undef = .bool true := hI.val 26 87 (by decide) rfl (dp 26 (by decide))
      have V27 : a.tmps.getD 88 undef = .slice yb qn yd := hI.val 27 88 (by decide) rfl (dp 27 (by decide))
      have V31 : a.tmps.getD 92 undef = .slice zb qn zd := hI.val 31 92 (by decide) rfl (dp 31 (by decide))
      obtain ⟨og, g1, g2, -, -, -⟩ := o26
      refine wpOp_call_b (f := 14) (args := #[.slice yb qn yd, .slice zb qn zd]) ho e4 g1 g2 (by rw [hI.size]; exact Nat.lt_of_lt_of_le (by decide) hs) V26 (by simp [execOp, e3, resolve, invoke, Deferred.ofValue, r14, ev, evf, evc, V26, V27, V31]) ((x32 w hw).mono ?_)
      rintro e W' ⟨rfl, hb6, hs6⟩
      refine ⟨_, rfl, ?_⟩
      rw [e2]
      exact go rfl hb6 hs6 rfl
    · obtain ⟨o', e1, e2, e3, e4, e5⟩ := o33
      obtain rfl := Option.some.inj (ho.symm.trans e1)
      have dp := dep_of' e5 hdep
      have V26 : a.tmps.getD 87 undef = .bool true := hI.val 26 87 (by decide) rfl (dp 26 (by decide))
      have V32 : a.tmps.getD 93 undef = .bool true := hI.val 32 93 (by decide) rfl (dp 32 (by decide))
      exact wpOp_value (v := .bool true) (w' := w) ho e4 (by simp [execOp, e3, ev, evc, V26, V32, asBool]) (by rw [e2]; exact go rfl (Below.refl _ _) hw rfl)
    · obtain ⟨o', e1, e2, e3, e4, e5⟩ := o34
      obtain rfl := Option.some.inj (ho.symm.trans e1)
      have dp := dep_of' e5 hdep
      have V33 : a.tmps.getD 94 undef = .bool true := hI.val 33 94 (by decide) rfl (dp 33 (by decide))
      exact wpOp_value (v := .bool true) (w' := w) ho e4 (by simp [execOp, e3, ev, evc, V33]) (by rw [e2]; exact go rfl (Below.refl _ _) hw rfl)
  · intro l a w hall hI
    have all : ∀ j, j < 35 → l j = true := fun j hj => hall j (by rw [hsz]; exact hj)
    exact fin a w hI.size hI.defers hI.kept hI.world.1 (fun i d hi hD => hI.val i d hi hD (all i hi))

end Go.Proofs.Yteeljnibglnflaa
