/- The region of KvPages that holds the count of rows and pages against what they should be. -/
import Derived.Test.YtgjjeggopeppfaaRows
import Derived.Test.YtgjjeggopeppfaaPages
import Derived.Test.YtgjjeggopeppfaaInv
import Derived.WalkKit
import Derived.ProofKit
import Derived.OpenShut
import Derived.Below
import Derived.WalkLawsBesides
import Derived.Deep.QuietTactic
import Derived.BigQuiet
import Derived.Orders
namespace Go.Proofs.Ytgjjeggopeppfaa
open Go.ChangeShapes Go.WideShapes Go.ChangeAt Go.RowKit
set_option linter.unusedVariables false
set_option linter.unusedSimpArgs false

theorem wpOp_value_b {P : Program} {ops : Array Oper} {Q : Exit → Act → World → Prop} {i gi p : Nat} {bb : Bool} {o og : Oper} {a : Act} {w w' : World} {v : Value} {K : Act → World → Prop} (ho : ops[i]? = some o) (hg : o.guard = some (gi, bb)) (hgo : ops[gi]? = some og) (hgd : og.dst = some p) (hp : p < a.tmps.size) (hb : a.tmps.getD p undef = .bool bb)
    (hr : (execOp a.eval o).run P w = .ok (.value v) w') (hK : K (a.put o.dst v) w') : wpOp P ops Q i K a w := by
  have hy : yielded ops a.tmps gi = some bb := by
    unfold yielded
    rw [hgo]
    simp only [Option.bind_some, hgd]
    rw [Array.getD_eq_getD_getElem?] at hb
    rw [Array.getElem?_eq_getElem hp] at hb ⊢
    simp only [Option.getD_some] at hb
    rw [hb]
  unfold wpOp
  simp only [ho]
  have hw : Region.wanted o (yielded ops a.tmps) = true := by simp [Region.wanted, hg, hy]
  rw [if_pos hw]
  refine .inl ?_
  unfold Oper.wp
  rw [hr]
  exact hK
theorem wpOp_call_b {P : Program} {ops : Array Oper} {Q : Exit → Act → World → Prop} {i gi p : Nat} {bb : Bool} {o og : Oper} {a : Act} {w : World} {f : FuncId} {args : Array Value} {K : Act → World → Prop} (ho : ops[i]? = some o) (hg : o.guard = some (gi, bb)) (hgo : ops[gi]? = some og) (hgd : og.dst = some p) (hp : p < a.tmps.size) (hb : a.tmps.getD p undef = .bool bb)
    (hr : (execOp a.eval o).run P w = .ok (.enter f args) w) (c : Calls P f args w fun e w' => ∃ v, e = .returned v ∧ K (a.put o.dst v) w') : wpOp P ops Q i K a w := by
  have hy : yielded ops a.tmps gi = some bb := by
    unfold yielded
    rw [hgo]
    simp only [Option.bind_some, hgd]
    rw [Array.getD_eq_getD_getElem?] at hb
    rw [Array.getElem?_eq_getElem hp] at hb ⊢
    simp only [Option.getD_some] at hb
    rw [hb]
  unfold wpOp
  simp only [ho]
  have hw : Region.wanted o (yielded ops a.tmps) = true := by simp [Region.wanted, hg, hy]
  rw [if_pos hw]
  refine .inl ?_
  unfold Oper.wp
  rw [hr]
  unfold Oper.upon
  refine c.mono ?_
  rintro e w' ⟨v, rfl, hK⟩
  exact hK
theorem enters_of {P : Program} {f : FuncId} {fn : Func} {c : Code} (hf : P.funcs[f]? = some fn) (hname : (fn.name == "runtime.NumGoroutine") = false) (hb : fn.body = some c) (args : Array Value) (w : World) :
    (callFunc f args).run P w = .ok (.enter f args) w := by
  have h1 : fn.name ≠ "runtime.NumGoroutine" := by simpa using hname
  simp [callFunc, hf, h1, hb]

def pgsD (i : Nat) : Option Nat := match i with | 0 => some 89 | 1 => some 90 | 2 => some 91 | 3 => some 92 | 4 => some 93 | 5 => some 94 | 6 => some 95 | 7 => some 96 | 8 => some 97 | 9 => some 98 | 10 => some 99 | 11 => some 100 | 12 => some 101 | 13 => some 102 | 14 => some 103 | 15 => some 104 | 16 => some 105 | 17 => some 106 | 18 => some 107 | 19 => some 108 | 20 => some 109 | 21 => some 110 | 22 => some 111 | 23 => some 112 | 24 => some 113 | 25 => some 114 | 26 => some 115 | _ => none
theorem pgsD_inj : ∀ i, i < 27 → ∀ j, j < 27 → pgsD i = pgsD j → pgsD i ≠ none → i = j := by decide
theorem pgsD_lt : ∀ i, i < 27 → ∀ d, pgsD i = some d → d < 119 := by
  intro i hi d h
  have : ∀ i, i < 27 → (pgsD i).all (fun d => decide (d < 119)) = true := by decide
  have := this i hi
  rw [h] at this
  simpa using this
def pgsF (x b L : Nat) (n1 R A1 A2 : Int) (i : Nat) (q : Value) (w : World) : Prop := match i with
  | 0 => q = .pointer (some ⟨x, 0, none⟩)
  | 1 => q = .int .i64 n1
  | 2 => q = .int .i64 n1
  | 3 => q = .bool false
  | 4 => q = .bool false
  | 5 => q = .pointer (some ⟨x, 0, none⟩)
  | 6 => ∃ pa pc, q = .slice pa L pc
  | 7 => q = .int .i64 (L : Nat)
  | 8 => q = .int .i64 n1
  | 9 => q = .int .i64 R
  | 10 => q = .int .i64 A1
  | 11 => q = .int .i64 A2
  | 12 => q = .int .i64 R
  | 13 => q = .int .i64 (L : Nat)
  | 14 => q = .bool false
  | 15 => q = .bool false
  | 16 => q = .bool false
  | 17 => q = .pointer (some ⟨b, 0, none⟩)
  | 18 => q = .int .i64 (L : Nat)
  | 19 => q = .int .i64 n1
  | 20 => q = .int .i64 R
  | 21 => q = .int .i64 A1
  | 22 => q = .int .i64 A2
  | 23 => q = .int .i64 R
  | 24 => q = .int .i64 (L : Nat)
  | 25 => q = .bool false
  | 26 => q = .bool false
  | _ => True
theorem pgsF_below {x b L : Nat} {n1 R A1 A2 : Int} {i : Nat} {q : Value} {w w' : World} (h : pgsF x b L n1 R A1 A2 i q w) (hb : Below w.heap.size w w') : pgsF x b L n1 R A1 A2 i q w' := by
  unfold pgsF at h ⊢
  split
  · exact h
  · exact h
  · exact h
  · exact h
  · exact h
  · exact h
  · exact h
  · exact h
  · exact h
  · exact h
  · exact h
  · exact h
  · exact h
  · exact h
  · exact h
  · exact h
  · exact h
  · exact h
  · exact h
  · exact h
  · exact h
  · exact h
  · exact h
  · exact h
  · exact h
  · exact h
  · exact h
  · trivial

set_option maxHeartbeats 8000000 in
theorem pgs_region {id : Nat} {ops : Array Oper} {Q : Exit → Act → World → Prop} {a0 : Act} {w0 : World} (x b L : Nat) (n1 R A1 A2 : Int) (S : World → Prop) (hlow : lowB ops = true) (hsz : ops.size = 27)
    (o0 : OpIn ops 0 (some 89) (.move (.tmp 9)) none []) (o1 : OpIn ops 1 (some 90) (.call { callee := .value (.func 23), args := #[.tmp 89], argTypes := #[31] }) none [0]) (o2 : OpIn ops 2 (some 91) (.move (.tmp 12)) none []) (o3 : OpIn ops 3 (some 92) (.binOp .neq 3 (.tmp 90) (.tmp 91) 3) none [1, 2]) (o4 : OpIn ops 4 (some 93) (.move (.tmp 92)) none [3]) (o5 : OpIn ops 5 (some 94) (.move (.tmp 9)) (some (4, false)) [4]) (o6 : OpIn ops 6 (some 95) (.call { callee := .value (.func 30), args := #[.tmp 94], argTypes := #[31] }) (some (4, false)) [4, 5]) (o7 : OpIn ops 7 (some 96) (.call { callee := .builtin .len, args := #[.tmp 95], argTypes := #[49] }) (some (4, false)) [4, 6]) (o8 : OpIn ops 8 (some 97) (.move (.tmp 12)) (some (4, false)) [4]) (o9 : OpIn ops 9 (some 98) (.move (.tmp 11)) (some (4, false)) [4]) (o10 : OpIn ops 10 (some 99) (.binOp .add 3 (.tmp 97) (.tmp 98) 3) (some (4, false)) [4, 8, 9]) (o11 : OpIn ops 11 (some 100) (.binOp .sub 3 (.tmp 99) (.const (.int .i64 1)) 3) (some (4, false)) [4, 10]) (o12 : OpIn ops 12 (some 101) (.move (.tmp 11)) (some (4, false)) [4]) (o13 : OpIn ops 13 (some 102) (.binOp .quo 3 (.tmp 100) (.tmp 101) 3) (some (4, false)) [4, 11, 12]) (o14 : OpIn ops 14 (some 103) (.binOp .neq 3 (.tmp 96) (.tmp 102) 3) (some (4, false)) [4, 7, 13]) (o15 : OpIn ops 15 (some 104) (.pick (.tmp 93) (.const (.bool true)) (.tmp 103)) none [4, 14]) (o16 : OpIn ops 16 (some 105) (.move (.tmp 104)) none [15]) (o17 : OpIn ops 17 (some 106) (.move (.tmp 7)) (some (16, false)) [16]) (o18 : OpIn ops 18 (some 107) (.call { callee := .value (.func 28), args := #[.tmp 106, .const (.string ⟨#[114]⟩)], argTypes := #[24, 9] }) (some (16, false)) [16, 17]) (o19 : OpIn ops 19 (some 108) (.move (.tmp 12)) (some (16, false)) [16]) (o20 : OpIn ops 20 (some 109) (.move (.tmp 11)) (some (16, false)) [16]) (o21 : OpIn ops 21 (some 110) (.binOp .add 3 (.tmp 108) (.tmp 109) 3) (some (16, false)) [16, 19, 20]) (o22 : OpIn ops 22 (some 111) (.binOp .sub 3 (.tmp 110) (.const (.int .i64 1)) 3) (some (16, false)) [16, 21]) (o23 : OpIn ops 23 (some 112) (.move (.tmp 11)) (some (16, false)) [16]) (o24 : OpIn ops 24 (some 113) (.binOp .quo 3 (.tmp 111) (.tmp 112) 3) (some (16, false)) [16, 22, 23]) (o25 : OpIn ops 25 (some 114) (.binOp .neq 3 (.tmp 107) (.tmp 113) 3) (some (16, false)) [16, 18, 24]) (o26 : OpIn ops 26 (some 115) (.pick (.tmp 105) (.const (.bool true)) (.tmp 114)) none [16, 25])
    (hS : S w0.drew)
    (x1 : ∀ w, S w → Calls Try.prog 23 #[.pointer (some ⟨x, 0, none⟩)] w fun e w' => e = .returned (.int .i64 n1) ∧ w' = w)
    (x3 : ∀ w, (binOp .neq 3 (.int .i64 n1) (.int .i64 n1)).run Try.prog w = .ok (.bool false) w)
    (x6 : ∀ w, S w → Calls Try.prog 30 #[.pointer (some ⟨x, 0, none⟩)] w fun e w' => ∃ pa pc, e = .returned (.slice pa L pc) ∧ Below w.heap.size w w' ∧ S w')
    (x10 : ∀ w, (binOp .add 3 (.int .i64 n1) (.int .i64 R)).run Try.prog w = .ok (.int .i64 A1) w)
    (x11 : ∀ w, (binOp .sub 3 (.int .i64 A1) (.int .i64 1)).run Try.prog w = .ok (.int .i64 A2) w)
    (x13 : ∀ w, (binOp .quo 3 (.int .i64 A2) (.int .i64 R)).run Try.prog w = .ok (.int .i64 (L : Nat)) w)
    (x14 : ∀ w, (binOp .neq 3 (.int .i64 (L : Nat)) (.int .i64 (L : Nat))).run Try.prog w = .ok (.bool false) w)
    (x18 : ∀ w, S w → Calls Try.prog 28 #[.pointer (some ⟨b, 0, none⟩), .string ⟨#[114]⟩] w fun e w' => e = .returned (.int .i64 (L : Nat)) ∧ w' = w)
    (x21 : ∀ w, (binOp .add 3 (.int .i64 n1) (.int .i64 R)).run Try.prog w = .ok (.int .i64 A1) w)
    (x22 : ∀ w, (binOp .sub 3 (.int .i64 A1) (.int .i64 1)).run Try.prog w = .ok (.int .i64 A2) w)
    (x24 : ∀ w, (binOp .quo 3 (.int .i64 A2) (.int .i64 R)).run Try.prog w = .ok (.int .i64 (L : Nat)) w)
    (x25 : ∀ w, (binOp .neq 3 (.int .i64 (L : Nat)) (.int .i64 (L : Nat))).run Try.prog w = .ok (.bool false) w)
    (u7 : a0.tmps.getD 7 undef = .pointer (some ⟨b, 0, none⟩))
    (u9 : a0.tmps.getD 9 undef = .pointer (some ⟨x, 0, none⟩))
    (u11 : a0.tmps.getD 11 undef = .int .i64 R)
    (u12 : a0.tmps.getD 12 undef = .int .i64 n1)
    (hs : 119 ≤ a0.tmps.size)
    (fin : ∀ a w, a.tmps.size = a0.tmps.size → a.defers = a0.defers → (∀ s, (∀ i, i < 27 → pgsD i ≠ some s) → a.tmps.getD s undef = a0.tmps.getD s undef) → S w → (∀ i d, i < 27 → pgsD i = some d → pgsF x b L n1 R A1 A2 i (a.tmps.getD d undef) w) → Q .normal a w) : (Code.region id ops true).wp Try.prog Q a0 w0 := by
  have r23 : ∀ args w, (callFunc 23 args).run Try.prog w = .ok (.enter 23 args) w := enters_of Try.func23 (by kernel_rfl) rfl
  have r28 : ∀ args w, (callFunc 28 args).run Try.prog w = .ok (.enter 28 args) w := enters_of Try.func28 (by kernel_rfl) rfl
  have r30 : ∀ args w, (callFunc 30 args).run Try.prog w = .ok (.enter 30 args) w := enters_of Try.func30 (by kernel_rfl) rfl
  refine wp_region_inv2 (by kernel_rfl) hlow (Inv 27 pgsD a0 (fun _ _ w => S w) (fun _ => pgsF x b L n1 R A1 A2)) (Inv.start hS) ?_ ?_
  · intro l i o a w ho hl hcl hdep hI
    have hi : i < 27 := by rw [← hsz]; exact (Array.getElem?_eq_some_iff.1 ho).1
    have ev : ∀ (s : Nat), a.eval (.tmp s) = a.tmps.getD s undef := fun _ => rfl
    have evf : ∀ f, a.eval (.func f) = .func (.func f) #[] #[] := fun _ => rfl
    have evc : ∀ c : Value, a.eval (.const c) = c := fun _ => rfl
    have inj : ∀ d, pgsD i = some d → ∀ j d', j < 27 → pgsD j = some d' → j ≠ i → d' ≠ d := fun d hd j d' hj hd' hne e => hne (pgsD_inj j hj i hi (by rw [hd', hd, e]) (by rw [hd']; simp))
    have kp : ∀ s, (∀ i, i < 27 → pgsD i ≠ some s) → a.tmps.getD s undef = a0.tmps.getD s undef := hI.kept
    have hw : S w := hI.world
    have go : ∀ {d : Nat} {v : Value} {w' : World}, pgsD i = some d → Below w.heap.size w w' → S w' → pgsF x b L n1 R A1 A2 i v w' → Inv 27 pgsD a0 (fun _ _ w => S w) (fun _ => pgsF x b L n1 R A1 A2) (fun j => l j || j == i) (a.put (some d) v) w' := by
      intro d v w' hD hb hS' hF
      exact hI.put hi hD (Nat.lt_of_lt_of_le (pgsD_lt i hi d hD) hs) (inj d hD) hS' hF (fun j u _ _ _ hf => pgsF_below hf hb)
    rcases (show i = 0 ∨ i = 1 ∨ i = 2 ∨ i = 3 ∨ i = 4 ∨ i = 5 ∨ i = 6 ∨ i = 7 ∨ i = 8 ∨ i = 9 ∨ i = 10 ∨ i = 11 ∨ i = 12 ∨ i = 13 ∨ i = 14 ∨ i = 15 ∨ i = 16 ∨ i = 17 ∨ i = 18 ∨ i = 19 ∨ i = 20 ∨ i = 21 ∨ i = 22 ∨ i = 23 ∨ i = 24 ∨ i = 25 ∨ i = 26 by omega) with rfl | rfl | rfl | rfl | rfl | rfl | rfl | rfl | rfl | rfl | rfl | rfl | rfl | rfl | rfl | rfl | rfl | rfl | rfl | rfl | rfl | rfl | rfl | rfl | rfl | rfl | rfl
    · obtain ⟨o', e1, e2, e3, e4, e5⟩ := o0
      obtain rfl := Option.some.inj (ho.symm.trans e1)
      have dp := dep_of' e5 hdep
      have U9 : a.tmps.getD 9 undef = .pointer (some ⟨x, 0, none⟩) := (kp 9 (by decide)).trans u9
      exact wpOp_value (v := .pointer (some ⟨x, 0, none⟩)) (w' := w) ho e4 (by simp [execOp, e3, ev, evc, U9]) (by rw [e2]; exact go rfl (Below.refl _ _) hw rfl)
    · obtain ⟨o', e1, e2, e3, e4, e5⟩ := o1
      obtain rfl := Option.some.inj (ho.symm.trans e1)
      have dp := dep_of' e5 hdep
      have V0 : a.tmps.getD 89 undef = .pointer (some ⟨x, 0, none⟩) := hI.val 0 89 (by decide) rfl (dp 0 (by decide))
      refine wpOp_call (f := 23) (args := #[.pointer (some ⟨x, 0, none⟩)]) ho e4 (by simp [execOp, e3, resolve, invoke, Deferred.ofValue, r23, ev, evf, evc, V0]) ((x1 w hw).mono ?_)
      rintro e W' ⟨rfl, h5⟩
      refine ⟨_, rfl, ?_⟩
      rw [e2]
      exact go rfl (by rw [h5]; exact Below.refl _ _) (by rw [h5]; exact hw) rfl
    · obtain ⟨o', e1, e2, e3, e4, e5⟩ := o2
      obtain rfl := Option.some.inj (ho.symm.trans e1)
      have dp := dep_of' e5 hdep
      have U12 : a.tmps.getD 12 undef = .int .i64 n1 := (kp 12 (by decide)).trans u12
      exact wpOp_value (v := .int .i64 n1) (w' := w) ho e4 (by simp [execOp, e3, ev, evc, U12]) (by rw [e2]; exact go rfl (Below.refl _ _) hw rfl)
    · obtain ⟨o', e1, e2, e3, e4, e5⟩ := o3
      obtain rfl := Option.some.inj (ho.symm.trans e1)
      have dp := dep_of' e5 hdep
      have V1 : a.tmps.getD 90 undef = .int .i64 n1 := hI.val 1 90 (by decide) rfl (dp 1 (by decide))
      have V2 : a.tmps.getD 91 undef = .int .i64 n1 := hI.val 2 91 (by decide) rfl (dp 2 (by decide))
      exact wpOp_value (v := .bool false) (w' := w) ho e4 (by simp [execOp, e3, ev, evc, V1, V2, x3 w, eqGuard]) (by rw [e2]; exact go rfl (Below.refl _ _) hw rfl)
    · obtain ⟨o', e1, e2, e3, e4, e5⟩ := o4
      obtain rfl := Option.some.inj (ho.symm.trans e1)
      have dp := dep_of' e5 hdep
      have V3 : a.tmps.getD 92 undef = .bool false := hI.val 3 92 (by decide) rfl (dp 3 (by decide))
      exact wpOp_value (v := .bool false) (w' := w) ho e4 (by simp [execOp, e3, ev, evc, V3]) (by rw [e2]; exact go rfl (Below.refl _ _) hw rfl)
    · obtain ⟨o', e1, e2, e3, e4, e5⟩ := o5
      obtain rfl := Option.some.inj (ho.symm.trans e1)
      have dp := dep_of' e5 hdep
      have V4 : a.tmps.getD 93 undef = .bool false := hI.val 4 93 (by decide) rfl (dp 4 (by decide))
      have U9 : a.tmps.getD 9 undef = .pointer (some ⟨x, 0, none⟩) := (kp 9 (by decide)).trans u9
      obtain ⟨og, g1, g2, -, -, -⟩ := o4
      exact wpOp_value_b (v := .pointer (some ⟨x, 0, none⟩)) (w' := w) ho e4 g1 g2 (by rw [hI.size]; exact Nat.lt_of_lt_of_le (by decide) hs) V4 (by simp [execOp, e3, ev, evc, V4, U9]) (by rw [e2]; exact go rfl (Below.refl _ _) hw rfl)
    · obtain ⟨o', e1, e2, e3, e4, e5⟩ := o6
      obtain rfl := Option.some.inj (ho.symm.trans e1)
      have dp := dep_of' e5 hdep
      have V4 : a.tmps.getD 93 undef = .bool false := hI.val 4 93 (by decide) rfl (dp 4 (by decide))
      have V5 : a.tmps.getD 94 undef = .pointer (some ⟨x, 0, none⟩) := hI.val 5 94 (by decide) rfl (dp 5 (by decide))
      obtain ⟨og, g1, g2, -, -, -⟩ := o4
      refine wpOp_call_b (f := 30) (args := #[.pointer (some ⟨x, 0, none⟩)]) ho e4 g1 g2 (by rw [hI.size]; exact Nat.lt_of_lt_of_le (by decide) hs) V4 (by simp [execOp, e3, resolve, invoke, Deferred.ofValue, r30, ev, evf, evc, V4, V5]) ((x6 w hw).mono ?_)
      rintro e W' ⟨pa, pc, rfl, hb6, hs6⟩
      refine ⟨_, rfl, ?_⟩
      rw [e2]
      exact go rfl hb6 hs6 ⟨pa, pc, rfl⟩
    · obtain ⟨o', e1, e2, e3, e4, e5⟩ := o7
      obtain rfl := Option.some.inj (ho.symm.trans e1)
      have dp := dep_of' e5 hdep
      have V4 : a.tmps.getD 93 undef = .bool false := hI.val 4 93 (by decide) rfl (dp 4 (by decide))
      obtain ⟨pa6, pc6, V6⟩ : ∃ pa pc, a.tmps.getD 95 undef = .slice pa L pc := hI.val 6 95 (by decide) rfl (dp 6 (by decide))
      obtain ⟨og, g1, g2, -, -, -⟩ := o4
      exact wpOp_value_b (v := .int .i64 (L : Nat)) (w' := w) ho e4 g1 g2 (by rw [hI.size]; exact Nat.lt_of_lt_of_le (by decide) hs) V4 (by simp [execOp, e3, ev, evc, V4, V6, builtin, resolve, invoke, goInt, Builtin.len_, run_underlying Try.underlying49, Builtin.lenOf]) (by rw [e2]; exact go rfl (Below.refl _ _) hw rfl)
    · obtain ⟨o', e1, e2, e3, e4, e5⟩ := o8
      obtain rfl := Option.some.inj (ho.symm.trans e1)
      have dp := dep_of' e5 hdep
      have V4 : a.tmps.getD 93 undef = .bool false := hI.val 4 93 (by decide) rfl (dp 4 (by decide))
      have U12 : a.tmps.getD 12 undef = .int .i64 n1 := (kp 12 (by decide)).trans u12
      obtain ⟨og, g1, g2, -, -, -⟩ := o4
      exact wpOp_value_b (v := .int .i64 n1) (w' := w) ho e4 g1 g2 (by rw [hI.size]; exact Nat.lt_of_lt_of_le (by decide) hs) V4 (by simp [execOp, e3, ev, evc, V4, U12]) (by rw [e2]; exact go rfl (Below.refl _ _) hw rfl)
    · obtain ⟨o', e1, e2, e3, e4, e5⟩ := o9
      obtain rfl := Option.some.inj (ho.symm.trans e1)
      have dp := dep_of' e5 hdep
      have V4 : a.tmps.getD 93 undef = .bool false := hI.val 4 93 (by decide) rfl (dp 4 (by decide))
      have U11 : a.tmps.getD 11 undef = .int .i64 R := (kp 11 (by decide)).trans u11
      obtain ⟨og, g1, g2, -, -, -⟩ := o4
      exact wpOp_value_b (v := .int .i64 R) (w' := w) ho e4 g1 g2 (by rw [hI.size]; exact Nat.lt_of_lt_of_le (by decide) hs) V4 (by simp [execOp, e3, ev, evc, V4, U11]) (by rw [e2]; exact go rfl (Below.refl _ _) hw rfl)
    · obtain ⟨o', e1, e2, e3, e4, e5⟩ := o10
      obtain rfl := Option.some.inj (ho.symm.trans e1)
      have dp := dep_of' e5 hdep
      have V4 : a.tmps.getD 93 undef = .bool false := hI.val 4 93 (by decide) rfl (dp 4 (by decide))
      have V8 : a.tmps.getD 97 undef = .int .i64 n1 := hI.val 8 97 (by decide) rfl (dp 8 (by decide))
      have V9 : a.tmps.getD 98 undef = .int .i64 R := hI.val 9 98 (by decide) rfl (dp 9 (by decide))
      obtain ⟨og, g1, g2, -, -, -⟩ := o4
      exact wpOp_value_b (v := .int .i64 A1) (w' := w) ho e4 g1 g2 (by rw [hI.size]; exact Nat.lt_of_lt_of_le (by decide) hs) V4 (by simp [execOp, e3, ev, evc, V4, V8, V9, x10 w, eqGuard]) (by rw [e2]; exact go rfl (Below.refl _ _) hw rfl)
    · obtain ⟨o', e1, e2, e3, e4, e5⟩ := o11
      obtain rfl := Option.some.inj (ho.symm.trans e1)
      have dp := dep_of' e5 hdep
      have V4 : a.tmps.getD 93 undef = .bool false := hI.val 4 93 (by decide) rfl (dp 4 (by decide))
      have V10 : a.tmps.getD 99 undef = .int .i64 A1 := hI.val 10 99 (by decide) rfl (dp 10 (by decide))
      obtain ⟨og, g1, g2, -, -, -⟩ := o4
      exact wpOp_value_b (v := .int .i64 A2) (w' := w) ho e4 g1 g2 (by rw [hI.size]; exact Nat.lt_of_lt_of_le (by decide) hs) V4 (by simp [execOp, e3, ev, evc, V4, V10, x11 w, eqGuard]) (by rw [e2]; exact go rfl (Below.refl _ _) hw rfl)
    · obtain ⟨o', e1, e2, e3, e4, e5⟩ := o12
      obtain rfl := Option.some.inj (ho.symm.trans e1)
      have dp := dep_of' e5 hdep
      have V4 : a.tmps.getD 93 undef = .bool false := hI.val 4 93 (by decide) rfl (dp 4 (by decide))
      have U11 : a.tmps.getD 11 undef = .int .i64 R := (kp 11 (by decide)).trans u11
      obtain ⟨og, g1, g2, -, -, -⟩ := o4
      exact wpOp_value_b (v := .int .i64 R) (w' := w) ho e4 g1 g2 (by rw [hI.size]; exact Nat.lt_of_lt_of_le (by decide) hs) V4 (by simp [execOp, e3, ev, evc, V4, U11]) (by rw [e2]; exact go rfl (Below.refl _ _) hw rfl)
    · obtain ⟨o', e1, e2, e3, e4, e5⟩ := o13
      obtain rfl := Option.some.inj (ho.symm.trans e1)
      have dp := dep_of' e5 hdep
      have V4 : a.tmps.getD 93 undef = .bool false := hI.val 4 93 (by decide) rfl (dp 4 (by decide))
      have V11 : a.tmps.getD 100 undef = .int .i64 A2 := hI.val 11 100 (by decide) rfl (dp 11 (by decide))
      have V12 : a.tmps.getD 101 undef = .int .i64 R := hI.val 12 101 (by decide) rfl (dp 12 (by decide))
      obtain ⟨og, g1, g2, -, -, -⟩ := o4
      exact wpOp_value_b (v := .int .i64 (L : Nat)) (w' := w) ho e4 g1 g2 (by rw [hI.size]; exact Nat.lt_of_lt_of_le (by decide) hs) V4 (by simp [execOp, e3, ev, evc, V4, V11, V12, x13 w, eqGuard]) (by rw [e2]; exact go rfl (Below.refl _ _) hw rfl)
    · obtain ⟨o', e1, e2, e3, e4, e5⟩ := o14
      obtain rfl := Option.some.inj (ho.symm.trans e1)
      have dp := dep_of' e5 hdep
      have V4 : a.tmps.getD 93 undef = .bool false := hI.val 4 93 (by decide) rfl (dp 4 (by decide))
      have V7 : a.tmps.getD 96 undef = .int .i64 (L : Nat) := hI.val 7 96 (by decide) rfl (dp 7 (by decide))
      have V13 : a.tmps.getD 102 undef = .int .i64 (L : Nat) := hI.val 13 102 (by decide) rfl (dp 13 (by decide))
      obtain ⟨og, g1, g2, -, -, -⟩ := o4
      exact wpOp_value_b (v := .bool false) (w' := w) ho e4 g1 g2 (by rw [hI.size]; exact Nat.lt_of_lt_of_le (by decide) hs) V4 (by simp [execOp, e3, ev, evc, V4, V7, V13, x14 w, eqGuard]) (by rw [e2]; exact go rfl (Below.refl _ _) hw rfl)
    · obtain ⟨o', e1, e2, e3, e4, e5⟩ := o15
      obtain rfl := Option.some.inj (ho.symm.trans e1)
      have dp := dep_of' e5 hdep
      have V4 : a.tmps.getD 93 undef = .bool false := hI.val 4 93 (by decide) rfl (dp 4 (by decide))
      have V14 : a.tmps.getD 103 undef = .bool false := hI.val 14 103 (by decide) rfl (dp 14 (by decide))
      exact wpOp_value (v := .bool false) (w' := w) ho e4 (by simp [execOp, e3, ev, evc, V4, V14, asBool]) (by rw [e2]; exact go rfl (Below.refl _ _) hw rfl)
    · obtain ⟨o', e1, e2, e3, e4, e5⟩ := o16
      obtain rfl := Option.some.inj (ho.symm.trans e1)
      have dp := dep_of' e5 hdep
      have V15 : a.tmps.getD 104 undef = .bool false := hI.val 15 104 (by decide) rfl (dp 15 (by decide))
      exact wpOp_value (v := .bool false) (w' := w) ho e4 (by simp [execOp, e3, ev, evc, V15]) (by rw [e2]; exact go rfl (Below.refl _ _) hw rfl)
    · obtain ⟨o', e1, e2, e3, e4, e5⟩ := o17
      obtain rfl := Option.some.inj (ho.symm.trans e1)
      have dp := dep_of' e5 hdep
      have V16 : a.tmps.getD 105 undef = .bool false := hI.val 16 105 (by decide) rfl (dp 16 (by decide))
      have U7 : a.tmps.getD 7 undef = .pointer (some ⟨b, 0, none⟩) := (kp 7 (by decide)).trans u7
      obtain ⟨og, g1, g2, -, -, -⟩ := o16
      exact wpOp_value_b (v := .pointer (some ⟨b, 0, none⟩)) (w' := w) ho e4 g1 g2 (by rw [hI.size]; exact Nat.lt_of_lt_of_le (by decide) hs) V16 (by simp [execOp, e3, ev, evc, V16, U7]) (by rw [e2]; exact go rfl (Below.refl _ _) hw rfl)
    · obtain ⟨o', e1, e2, e3, e4, e5⟩ := o18
      obtain rfl := Option.some.inj (ho.symm.trans e1)
      have dp := dep_of' e5 hdep
      have V16 : a.tmps.getD 105 undef = .bool false := hI.val 16 105 (by decide) rfl (dp 16 (by decide))
      have V17 : a.tmps.getD 106 undef = .pointer (some ⟨b, 0, none⟩) := hI.val 17 106 (by decide) rfl (dp 17 (by decide))
      obtain ⟨og, g1, g2, -, -, -⟩ := o16
      refine wpOp_call_b (f := 28) (args := #[.pointer (some ⟨b, 0, none⟩), .string ⟨#[114]⟩]) ho e4 g1 g2 (by rw [hI.size]; exact Nat.lt_of_lt_of_le (by decide) hs) V16 (by simp [execOp, e3, resolve, invoke, Deferred.ofValue, r28, ev, evf, evc, V16, V17]) ((x18 w hw).mono ?_)
      rintro e W' ⟨rfl, h5⟩
      refine ⟨_, rfl, ?_⟩
      rw [e2]
      exact go rfl (by rw [h5]; exact Below.refl _ _) (by rw [h5]; exact hw) rfl
    · obtain ⟨o', e1, e2, e3, e4, e5⟩ := o19
      obtain rfl := Option.some.inj (ho.symm.trans e1)
      have dp := dep_of' e5 hdep
      have V16 : a.tmps.getD 105 undef = .bool false := hI.val 16 105 (by decide) rfl (dp 16 (by decide))
      have U12 : a.tmps.getD 12 undef = .int .i64 n1 := (kp 12 (by decide)).trans u12
      obtain ⟨og, g1, g2, -, -, -⟩ := o16
      exact wpOp_value_b (v := .int .i64 n1) (w' := w) ho e4 g1 g2 (by rw [hI.size]; exact Nat.lt_of_lt_of_le (by decide) hs) V16 (by simp [execOp, e3, ev, evc, V16, U12]) (by rw [e2]; exact go rfl (Below.refl _ _) hw rfl)
    · obtain ⟨o', e1, e2, e3, e4, e5⟩ := o20
      obtain rfl := Option.some.inj (ho.symm.trans e1)
      have dp := dep_of' e5 hdep
      have V16 : a.tmps.getD 105 undef = .bool false := hI.val 16 105 (by decide) rfl (dp 16 (by decide))
      have U11 : a.tmps.getD 11 undef = .int .i64 R := (kp 11 (by decide)).trans u11
      obtain ⟨og, g1, g2, -, -, -⟩ := o16
      exact wpOp_value_b (v := .int .i64 R) (w' := w) ho e4 g1 g2 (by rw [hI.size]; exact Nat.lt_of_lt_of_le (by decide) hs) V16 (by simp [execOp, e3, ev, evc, V16, U11]) (by rw [e2]; exact go rfl (Below.refl _ _) hw rfl)
    · obtain ⟨o', e1, e2, e3, e4, e5⟩ := o21
      obtain rfl := Option.some.inj (ho.symm.trans e1)
      have dp := dep_of' e5 hdep
      have V16 : a.tmps.getD 105 undef = .bool false := hI.val 16 105 (by decide) rfl (dp 16 (by decide))
      have V19 : a.tmps.getD 108 undef = .int .i64 n1 := hI.val 19 108 (by decide) rfl (dp 19 (by decide))
      have V20 : a.tmps.getD 109 undef = .int .i64 R := hI.val 20 109 (by decide) rfl (dp 20 (by decide))
      obtain ⟨og, g1, g2, -, -, -⟩ := o16
      exact wpOp_value_b (v := .int .i64 A1) (w' := w) ho e4 g1 g2 (by rw [hI.size]; exact Nat.lt_of_lt_of_le (by decide) hs) V16 (by simp [execOp, e3, ev, evc, V16, V19, V20, x21 w, eqGuard]) (by rw [e2]; exact go rfl (Below.refl _ _) hw rfl)
    · obtain ⟨o', e1, e2, e3, e4, e5⟩ := o22
      obtain rfl := Option.some.inj (ho.symm.trans e1)
      have dp := dep_of' e5 hdep
      have V16 : a.tmps.getD 105 undef = .bool false := hI.val 16 105 (by decide) rfl (dp 16 (by decide))
      have V21 : a.tmps.getD 110 undef = .int .i64 A1 := hI.val 21 110 (by decide) rfl (dp 21 (by decide))
      obtain ⟨og, g1, g2, -, -, -⟩ := o16
      exact wpOp_value_b (v := .int .i64 A2) (w' := w) ho e4 g1 g2 (by rw [hI.size]; exact Nat.lt_of_lt_of_le (by decide) hs) V16 (by simp [execOp, e3, ev, evc, V16, V21, x22 w, eqGuard]) (by rw [e2]; exact go rfl (Below.refl _ _) hw rfl)
    · obtain ⟨o', e1, e2, e3, e4, e5⟩ := o23
      obtain rfl := Option.some.inj (ho.symm.trans e1)
      have dp := dep_of' e5 hdep
      have V16 : a.tmps.getD 105 undef = .bool false := hI.val 16 105 (by decide) rfl (dp 16 (by decide))
      have U11 : a.tmps.getD 11 undef = .int .i64 R := (kp 11 (by decide)).trans u11
      obtain ⟨og, g1, g2, -, -, -⟩ := o16
      exact wpOp_value_b (v := .int .i64 R) (w' := w) ho e4 g1 g2 (by rw [hI.size]; exact Nat.lt_of_lt_of_le (by decide) hs) V16 (by simp [execOp, e3, ev, evc, V16, U11]) (by rw [e2]; exact go rfl (Below.refl _ _) hw rfl)
    · obtain ⟨o', e1, e2, e3, e4, e5⟩ := o24
      obtain rfl := Option.some.inj (ho.symm.trans e1)
      have dp := dep_of' e5 hdep
      have V16 : a.tmps.getD 105 undef = .bool false := hI.val 16 105 (by decide) rfl (dp 16 (by decide))
      have V22 : a.tmps.getD 111 undef = .int .i64 A2 := hI.val 22 111 (by decide) rfl (dp 22 (by decide))
      have V23 : a.tmps.getD 112 undef = .int .i64 R := hI.val 23 112 (by decide) rfl (dp 23 (by decide))
      obtain ⟨og, g1, g2, -, -, -⟩ := o16
      exact wpOp_value_b (v := .int .i64 (L : Nat)) (w' := w) ho e4 g1 g2 (by rw [hI.size]; exact Nat.lt_of_lt_of_le (by decide) hs) V16 (by simp [execOp, e3, ev, evc, V16, V22, V23, x24 w, eqGuard]) (by rw [e2]; exact go rfl (Below.refl _ _) hw rfl)
    · obtain ⟨o', e1, e2, e3, e4, e5⟩ := o25
      obtain rfl := Option.some.inj (ho.symm.trans e1)
      have dp := dep_of' e5 hdep
      have V16 : a.tmps.getD 105 undef = .bool false := hI.val 16 105 (by decide) rfl (dp 16 (by decide))
      have V18 : a.tmps.getD 107 undef = .int .i64 (L : Nat) := hI.val 18 107 (by decide) rfl (dp 18 (by decide))
      have V24 : a.tmps.getD 113 undef = .int .i64 (L : Nat) := hI.val 24 113 (by decide) rfl (dp 24 (by decide))
      obtain ⟨og, g1, g2, -, -, -⟩ := o16
      exact wpOp_value_b (v := .bool false) (w' := w) ho e4 g1 g2 (by rw [hI.size]; exact Nat.lt_of_lt_of_le (by decide) hs) V16 (by simp [execOp, e3, ev, evc, V16, V18, V24, x25 w, eqGuard]) (by rw [e2]; exact go rfl (Below.refl _ _) hw rfl)
    · obtain ⟨o', e1, e2, e3, e4, e5⟩ := o26
      obtain rfl := Option.some.inj (ho.symm.trans e1)
      have dp := dep_of' e5 hdep
      have V16 : a.tmps.getD 105 undef = .bool false := hI.val 16 105 (by decide) rfl (dp 16 (by decide))
      have V25 : a.tmps.getD 114 undef = .bool false := hI.val 25 114 (by decide) rfl (dp 25 (by decide))
      exact wpOp_value (v := .bool false) (w' := w) ho e4 (by simp [execOp, e3, ev, evc, V16, V25, asBool]) (by rw [e2]; exact go rfl (Below.refl _ _) hw rfl)
  · intro l a w hall hI
    have all : ∀ j, j < 27 → l j = true := fun j hj => hall j (by rw [hsz]; exact hj)
    exact fin a w hI.size hI.defers hI.kept hI.world (fun i d hi hD => hI.val i d hi hD (all i hi))

end Go.Proofs.Ytgjjeggopeppfaa
