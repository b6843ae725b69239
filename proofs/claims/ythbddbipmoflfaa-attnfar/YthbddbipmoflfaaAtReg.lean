/- The region in which the document cuts rows and asks one head. -/
import Derived.Test.YthbddbipmoflfaaRows
import Derived.Test.YthbddbipmoflfaaView
import Derived.Test.YthbddbipmoflfaaOwn
import Derived.Test.YthbddbipmoflfaaMean
import Derived.Test.YthbddbipmoflfaaAtCut
import Derived.Test.YthbddbipmoflfaaInvIn
import Derived.WalkKit
import Derived.ProofKit
import Derived.OpenShut
import Derived.Below
import Derived.WalkLawsBesides
import Derived.Deep.QuietTactic
import Derived.BigQuiet
import Derived.Orders
import Derived.Shelf.Abstract
namespace Go.Proofs.Ythbddbipmoflfaa
open Go.ChangeShapes Go.WideShapes Go.ChangeAt Go.RowKit
set_option linter.unusedVariables false
set_option linter.unusedSimpArgs false

theorem hidden_ {p : Prop} (h : p) : Hid p := h
theorem wrap_in {z : Int} (h0 : -9223372036854775808 ≤ z) (h1 : z ≤ 9223372036854775807) : IntKind.i64.wrap z = z := by
  simp [IntKind.wrap, IntKind.signed, IntKind.bits]
  omega
theorem run_add3 (x y : Int) (h0 : -9223372036854775808 ≤ x + y) (h1 : x + y ≤ 9223372036854775807) (w : World) : (binOp .add 3 (.int .i64 x) (.int .i64 y)).run Try.prog w = .ok (.int .i64 (x + y)) w := by
  have := wrap_in h0 h1
  go_simp
theorem run_mul3 (x y z : Int) (e : x * y = z) (h0 : -9223372036854775808 ≤ z) (h1 : z ≤ 9223372036854775807) (w : World) : (binOp .mul 3 (.int .i64 x) (.int .i64 y)).run Try.prog w = .ok (.int .i64 z) w := by
  have := wrap_in h0 h1
  go_simp
theorem run_cut22 (x : Addr) (n c P Q d : Nat) (h1 : P < Q) (h2 : Q ≤ c) (e : Q - P = d) (w : World) : (Instr.sliceAt 22 (.slice (some x) n c) (some (.int .i64 P)) (some (.int .i64 Q)) none).run Try.prog w = .ok (.slice (some (x.add P)) d (c - P)) w := by
  have h3 : P ≤ Q := by omega
  have h4 : ¬ c = P := by omega
  go_simp

theorem wpOp_value_b {P : Program} {ops : Array Oper} {Q : Exit → Act → World → Prop} {i gi p : Nat} {bb : Bool} {o og : Oper} {a : Act} {w w' : World} {v : Value} {K : Act → World → Prop} (ho : ops[i]? = some o) (hg : o.guard = some (gi, bb)) (hgo : ops[gi]? = some og) (hgd : og.dst = some p) (hp : p < a.tmps.size) (hb : a.tmps.getD p undef = .bool bb)
    (hr : (execOp a.eval o).run P w = .ok (.value v) w') (hK : K (a.put o.dst v) w') : wpOp P ops Q i K a w := by
  have hy : yielded ops a.tmps gi = some bb := by
    unfold yielded
    rw [hgo]
    simp only [Option.bind_some, hgd]
    rw [Array.getD_eq_getD_getElem?] at hb
    rw [Array.getElem?_eq_getElem hp] at hb ⊢
    simp only [Option.getD_some] at hb
    rw [hb]
  unfold wpOp
  simp only [ho]
  have hw : Region.wanted o (yielded ops a.tmps) = true := by simp [Region.wanted, hg, hy]
  rw [if_pos hw]
  refine .inl ?_
  unfold Oper.wp
  rw [hr]
  exact hK
theorem wpOp_call_b {P : Program} {ops : Array Oper} {Q : Exit → Act → World → Prop} {i gi p : Nat} {bb : Bool} {o og : Oper} {a : Act} {w : World} {f : FuncId} {args : Array Value} {K : Act → World → Prop} (ho : ops[i]? = some o) (hg : o.guard = some (gi, bb)) (hgo : ops[gi]? = some og) (hgd : og.dst = some p) (hp : p < a.tmps.size) (hb : a.tmps.getD p undef = .bool bb)
    (hr : (execOp a.eval o).run P w = .ok (.enter f args) w) (c : Calls P f args w fun e w' => ∃ v, e = .returned v ∧ K (a.put o.dst v) w') : wpOp P ops Q i K a w := by
  have hy : yielded ops a.tmps gi = some bb := by
    unfold yielded
    rw [hgo]
    simp only [Option.bind_some, hgd]
    rw [Array.getD_eq_getD_getElem?] at hb
    rw [Array.getElem?_eq_getElem hp] at hb ⊢
    simp only [Option.getD_some] at hb
    rw [hb]
  unfold wpOp
  simp only [ho]
  have hw : Region.wanted o (yielded ops a.tmps) = true := by simp [Region.wanted, hg, hy]
  rw [if_pos hw]
  refine .inl ?_
  unfold Oper.wp
  rw [hr]
  unfold Oper.upon
  refine c.mono ?_
  rintro e w' ⟨v, rfl, hK⟩
  exact hK
theorem enters_of {P : Program} {f : FuncId} {fn : Func} {c : Code} (hf : P.funcs[f]? = some fn) (hname : (fn.name == "runtime.NumGoroutine") = false) (hb : fn.body = some c) (args : Array Value) (w : World) :
    (callFunc f args).run P w = .ok (.enter f args) w := by
  have h1 : fn.name ≠ "runtime.NumGoroutine" := by simpa using hname
  simp [callFunc, hf, h1, hb]
def haD (i : Nat) : Option Nat := match i with | 0 => some 39 | 1 => some 40 | 2 => some 41 | 3 => some 42 | 4 => some 43 | 5 => some 44 | 6 => some 45 | 7 => some 46 | 8 => some 47 | 9 => some 48 | 10 => some 49 | 11 => some 50 | 12 => some 51 | 13 => some 52 | 14 => some 53 | 15 => some 54 | 16 => some 55 | 17 => some 56 | 18 => some 57 | 19 => some 58 | 20 => some 59 | 21 => some 60 | 22 => some 38 | 23 => some 61 | 24 => some 62 | 25 => some 13 | 26 => some 14 | _ => none
theorem haD_inj : ∀ i, i < 27 → ∀ j, j < 27 → haD i = haD j → haD i ≠ none → i = j := by decide
theorem haD_lt : ∀ i, i < 27 → ∀ d, haD i = some d → d < 67 := by
  intro i hi d h
  have : ∀ i, i < 27 → (haD i).all (fun d => decide (d < 67)) = true := by decide
  have := this i hi
  rw [h] at this
  simpa using this
def haF (x : Addr) (N c0 n c1 c2 P Y dd k : Nat) (a1 a2 : Option Addr) (A A' : Nat → Option Addr) (C C' : Nat → Nat) (K V : Nat → List Int) (O : List Int) (i : Nat) (q : Value) (w : World) : Prop := match i with
  | 0 => q = .slice (some x) N c0
  | 1 => q = .int .i64 k
  | 2 => q = .int .i64 dd
  | 3 => q = .int .i64 P
  | 4 => q = .int .i64 k
  | 5 => q = .int .i64 ((k : Int) + 1)
  | 6 => q = .int .i64 dd
  | 7 => q = .int .i64 Y
  | 8 => q = .slice (some (x.add P)) dd (c0 - P)
  | 9 => q = .slice a1 n c1
  | 10 => q = .int .i64 k
  | 11 => q = .int .i64 dd
  | 12 => q = .int .i64 P
  | 13 => q = .int .i64 dd
  | 14 => ∃ b j, q = .slice b n j ∧ Grid w b n (cutA A P) (fun r => C r - P) (cutR K P dd)
  | 15 => q = .slice a2 n c2
  | 16 => q = .int .i64 k
  | 17 => q = .int .i64 dd
  | 18 => q = .int .i64 P
  | 19 => q = .int .i64 dd
  | 20 => ∃ b j, q = .slice b n j ∧ Grid w b n (cutA A' P) (fun r => C' r - P) (cutR V P dd)
  | 21 => ∃ b j, q = .tuple #[.slice b dd j, .int .i64 0] ∧ Reads .i64 w b dd O ∧ (b = none → j = 0)
  | 22 => ∃ b j, q = .tuple #[.slice b dd j, .int .i64 0] ∧ Reads .i64 w b dd O ∧ (b = none → j = 0)
  | 23 => ∃ b j, q = .slice b dd j ∧ Reads .i64 w b dd O ∧ (b = none → j = 0)
  | 24 => q = .int .i64 0
  | 25 => ∃ b j, q = .slice b dd j ∧ Reads .i64 w b dd O ∧ (b = none → j = 0)
  | 26 => q = .int .i64 0
  | _ => True
theorem haF_below {x : Addr} {N c0 n c1 c2 P Y dd k : Nat} {a1 a2 : Option Addr} {A A' : Nat → Option Addr} {C C' : Nat → Nat} {K V : Nat → List Int} {O : List Int} {i : Nat} {q : Value} {w w' : World} (h : haF x N c0 n c1 c2 P Y dd k a1 a2 A A' C C' K V O i q w) (hb : Below w.heap.size w w') : haF x N c0 n c1 c2 P Y dd k a1 a2 A A' C C' K V O i q w' := by
  unfold haF at h ⊢
  split
  · exact h
  · exact h
  · exact h
  · exact h
  · exact h
  · exact h
  · exact h
  · exact h
  · exact h
  · exact h
  · exact h
  · exact h
  · exact h
  · exact h
  · obtain ⟨b, j, h1, h2⟩ := h; exact ⟨b, j, h1, h2.below hb⟩
  · exact h
  · exact h
  · exact h
  · exact h
  · exact h
  · obtain ⟨b, j, h1, h2⟩ := h; exact ⟨b, j, h1, h2.below hb⟩
  · obtain ⟨b, j, h1, h2, h3⟩ := h; exact ⟨b, j, h1, h2.below hb, h3⟩
  · obtain ⟨b, j, h1, h2, h3⟩ := h; exact ⟨b, j, h1, h2.below hb, h3⟩
  · obtain ⟨b, j, h1, h2, h3⟩ := h; exact ⟨b, j, h1, h2.below hb, h3⟩
  · exact h
  · obtain ⟨b, j, h1, h2, h3⟩ := h; exact ⟨b, j, h1, h2.below hb, h3⟩
  · exact h
  · trivial

set_option maxHeartbeats 8000000 in
theorem ha_region {id : Nat} {ops : Array Oper} {Q : Exit → Act → World → Prop} {a0 : Act} {w0 : World} (x : Addr) (N c0 n c1 c2 P Y dd k : Nat) (a1 a2 : Option Addr) (A A' : Nat → Option Addr) (C C' : Nat → Nat) (K V : Nat → List Int) (O : List Int) (S : World → Prop) (hlow : lowB ops = true) (hsz : ops.size = 27)
    (o0 : OpIn ops 0 (some 39) (.move (.tmp 0)) none []) (o1 : OpIn ops 1 (some 40) (.move (.tmp 12)) none []) (o2 : OpIn ops 2 (some 41) (.move (.tmp 10)) none []) (o3 : OpIn ops 3 (some 42) (.binOp .mul 3 (.tmp 40) (.tmp 41) 3) none [1, 2]) (o4 : OpIn ops 4 (some 43) (.move (.tmp 12)) none []) (o5 : OpIn ops 5 (some 44) (.binOp .add 3 (.tmp 43) (.const (.int .i64 1)) 3) none [4]) (o6 : OpIn ops 6 (some 45) (.move (.tmp 10)) none []) (o7 : OpIn ops 7 (some 46) (.binOp .mul 3 (.tmp 44) (.tmp 45) 3) none [5, 6]) (o8 : OpIn ops 8 (some 47) (.slice 22 (.tmp 39) (some (.tmp 42)) (some (.tmp 46)) none) none [0, 3, 7]) (o9 : OpIn ops 9 (some 48) (.move (.tmp 1)) none []) (o10 : OpIn ops 10 (some 49) (.move (.tmp 12)) none []) (o11 : OpIn ops 11 (some 50) (.move (.tmp 10)) none []) (o12 : OpIn ops 12 (some 51) (.binOp .mul 3 (.tmp 49) (.tmp 50) 3) none [10, 11]) (o13 : OpIn ops 13 (some 52) (.move (.tmp 10)) none []) (o14 : OpIn ops 14 (some 53) (.call { callee := .value (.func 32), args := #[.tmp 48, .tmp 51, .tmp 52], argTypes := #[23, 3, 3] }) none [9, 12, 13]) (o15 : OpIn ops 15 (some 54) (.move (.tmp 2)) none []) (o16 : OpIn ops 16 (some 55) (.move (.tmp 12)) none []) (o17 : OpIn ops 17 (some 56) (.move (.tmp 10)) none []) (o18 : OpIn ops 18 (some 57) (.binOp .mul 3 (.tmp 55) (.tmp 56) 3) none [16, 17]) (o19 : OpIn ops 19 (some 58) (.move (.tmp 10)) none []) (o20 : OpIn ops 20 (some 59) (.call { callee := .value (.func 32), args := #[.tmp 54, .tmp 57, .tmp 58], argTypes := #[23, 3, 3] }) none [15, 18, 19]) (o21 : OpIn ops 21 (some 60) (.call { callee := .value (.func 11), args := #[.tmp 47, .tmp 53, .tmp 59], argTypes := #[22, 23, 23] }) none [8, 14, 20]) (o22 : OpIn ops 22 (some 38) (.move (.tmp 60)) none [21]) (o23 : OpIn ops 23 (some 61) (.extract (.tmp 38) 0) none [22]) (o24 : OpIn ops 24 (some 62) (.extract (.tmp 38) 1) none [22]) (o25 : OpIn ops 25 (some 13) (.assign (.tmp 61)) none [23]) (o26 : OpIn ops 26 (some 14) (.assign (.tmp 62)) none [24])
    (hS : S w0.drew)
    (x3 : ∀ w, (binOp .mul 3 (.int .i64 k) (.int .i64 dd)).run Try.prog w = .ok (.int .i64 P) w)
    (x5 : ∀ w, (binOp .add 3 (.int .i64 k) (.int .i64 1)).run Try.prog w = .ok (.int .i64 ((k : Int) + 1)) w)
    (x7 : ∀ w, (binOp .mul 3 (.int .i64 ((k : Int) + 1)) (.int .i64 dd)).run Try.prog w = .ok (.int .i64 Y) w)
    (x8 : ∀ w, (Instr.sliceAt 22 (.slice (some x) N c0) (some (.int .i64 P)) (some (.int .i64 Y)) none).run Try.prog w = .ok (.slice (some (x.add P)) dd (c0 - P)) w)
    (x12 : ∀ w, (binOp .mul 3 (.int .i64 k) (.int .i64 dd)).run Try.prog w = .ok (.int .i64 P) w)
    (x14 : ∀ w, S w → Calls Try.prog 32 #[.slice a1 n c1, .int .i64 P, .int .i64 dd] w fun e w' => ∃ b j, e = .returned (.slice b n j) ∧ Grid w' b n (cutA A P) (fun r => C r - P) (cutR K P dd) ∧ Below w.heap.size w w' ∧ S w')
    (x18 : ∀ w, (binOp .mul 3 (.int .i64 k) (.int .i64 dd)).run Try.prog w = .ok (.int .i64 P) w)
    (x20 : ∀ w, S w → Calls Try.prog 32 #[.slice a2 n c2, .int .i64 P, .int .i64 dd] w fun e w' => ∃ b j, e = .returned (.slice b n j) ∧ Grid w' b n (cutA A' P) (fun r => C' r - P) (cutR V P dd) ∧ Below w.heap.size w w' ∧ S w')
    (x21 : ∀ w, S w → ∀ b j b' j', Grid w b n (cutA A P) (fun r => C r - P) (cutR K P dd) → Grid w b' n (cutA A' P) (fun r => C' r - P) (cutR V P dd) → Calls Try.prog 11 #[.slice (some (x.add P)) dd (c0 - P), .slice b n j, .slice b' n j'] w fun e w' => ∃ b j, e = .returned (.tuple #[.slice b dd j, .int .i64 0]) ∧ Reads .i64 w' b dd O ∧ (b = none → j = 0) ∧ Below w.heap.size w w' ∧ S w')
    (u0 : a0.tmps.getD 0 undef = .slice (some x) N c0)
    (u1 : a0.tmps.getD 1 undef = .slice a1 n c1)
    (u2 : a0.tmps.getD 2 undef = .slice a2 n c2)
    (u10 : a0.tmps.getD 10 undef = .int .i64 dd)
    (u12 : a0.tmps.getD 12 undef = .int .i64 k)
    (hs : 67 ≤ a0.tmps.size)
    (fin : ∀ a w, a.tmps.size = a0.tmps.size → a.defers = a0.defers → (∀ s, (∀ i, i < 27 → haD i ≠ some s) → a.tmps.getD s undef = a0.tmps.getD s undef) → S w → (∀ i d, i < 27 → haD i = some d → haF x N c0 n c1 c2 P Y dd k a1 a2 A A' C C' K V O i (a.tmps.getD d undef) w) → Q .normal a w) : (Code.region id ops true).wp Try.prog Q a0 w0 := by
  have r11 : ∀ args w, (callFunc 11 args).run Try.prog w = .ok (.enter 11 args) w := enters_of Try.func11 (by kernel_rfl) rfl
  have r32 : ∀ args w, (callFunc 32 args).run Try.prog w = .ok (.enter 32 args) w := enters_of Try.func32 (by kernel_rfl) rfl
  refine wp_region_inv2 (by kernel_rfl) hlow (Inv 27 haD a0 (fun _ _ w => S w) (fun _ => haF x N c0 n c1 c2 P Y dd k a1 a2 A A' C C' K V O)) (Inv.start hS) ?_ ?_
  · intro l i o a w ho hl hcl hdep hI
    have hi : i < 27 := by rw [← hsz]; exact (Array.getElem?_eq_some_iff.1 ho).1
    have ev : ∀ (s : Nat), a.eval (.tmp s) = a.tmps.getD s undef := fun _ => rfl
    have evf : ∀ f, a.eval (.func f) = .func (.func f) #[] #[] := fun _ => rfl
    have evc : ∀ c : Value, a.eval (.const c) = c := fun _ => rfl
    have inj : ∀ d, haD i = some d → ∀ j d', j < 27 → haD j = some d' → j ≠ i → d' ≠ d := fun d hd j d' hj hd' hne e => hne (haD_inj j hj i hi (by rw [hd', hd, e]) (by rw [hd']; simp))
    have kp : ∀ s, (∀ i, i < 27 → haD i ≠ some s) → a.tmps.getD s undef = a0.tmps.getD s undef := hI.kept
    have hw : S w := hI.world
    have go : ∀ {d : Nat} {v : Value} {w' : World}, haD i = some d → Below w.heap.size w w' → S w' → haF x N c0 n c1 c2 P Y dd k a1 a2 A A' C C' K V O i v w' → Inv 27 haD a0 (fun _ _ w => S w) (fun _ => haF x N c0 n c1 c2 P Y dd k a1 a2 A A' C C' K V O) (fun j => l j || j == i) (a.put (some d) v) w' := by
      intro d v w' hD hb hS' hF
      exact hI.put hi hD (Nat.lt_of_lt_of_le (haD_lt i hi d hD) hs) (inj d hD) hS' hF (fun j u _ _ _ hf => haF_below hf hb)
    rcases (show i = 0 ∨ i = 1 ∨ i = 2 ∨ i = 3 ∨ i = 4 ∨ i = 5 ∨ i = 6 ∨ i = 7 ∨ i = 8 ∨ i = 9 ∨ i = 10 ∨ i = 11 ∨ i = 12 ∨ i = 13 ∨ i = 14 ∨ i = 15 ∨ i = 16 ∨ i = 17 ∨ i = 18 ∨ i = 19 ∨ i = 20 ∨ i = 21 ∨ i = 22 ∨ i = 23 ∨ i = 24 ∨ i = 25 ∨ i = 26 by omega) with rfl | rfl | rfl | rfl | rfl | rfl | rfl | rfl | rfl | rfl | rfl | rfl | rfl | rfl | rfl | rfl | rfl | rfl | rfl | rfl | rfl | rfl | rfl | rfl | rfl | rfl | rfl
    · obtain ⟨o', e1, e2, e3, e4, e5⟩ := o0
      obtain rfl := Option.some.inj (ho.symm.trans e1)
      have dp := dep_of' e5 hdep
      have U0 : a.tmps.getD 0 undef = .slice (some x) N c0 := (kp 0 (by decide)).trans u0
      exact wpOp_value (v := .slice (some x) N c0) (w' := w) ho e4 (by simp [execOp, e3, ev, evc, U0]) (by rw [e2]; exact go rfl (Below.refl _ _) hw rfl)
    · obtain ⟨o', e1, e2, e3, e4, e5⟩ := o1
      obtain rfl := Option.some.inj (ho.symm.trans e1)
      have dp := dep_of' e5 hdep
      have U12 : a.tmps.getD 12 undef = .int .i64 k := (kp 12 (by decide)).trans u12
      exact wpOp_value (v := .int .i64 k) (w' := w) ho e4 (by simp [execOp, e3, ev, evc, U12]) (by rw [e2]; exact go rfl (Below.refl _ _) hw rfl)
    · obtain ⟨o', e1, e2, e3, e4, e5⟩ := o2
      obtain rfl := Option.some.inj (ho.symm.trans e1)
      have dp := dep_of' e5 hdep
      have U10 : a.tmps.getD 10 undef = .int .i64 dd := (kp 10 (by decide)).trans u10
      exact wpOp_value (v := .int .i64 dd) (w' := w) ho e4 (by simp [execOp, e3, ev, evc, U10]) (by rw [e2]; exact go rfl (Below.refl _ _) hw rfl)
    · obtain ⟨o', e1, e2, e3, e4, e5⟩ := o3
      obtain rfl := Option.some.inj (ho.symm.trans e1)
      have dp := dep_of' e5 hdep
      have V1 : a.tmps.getD 40 undef = .int .i64 k := hI.val 1 40 (by decide) rfl (dp 1 (by decide))
      have V2 : a.tmps.getD 41 undef = .int .i64 dd := hI.val 2 41 (by decide) rfl (dp 2 (by decide))
      exact wpOp_value (v := .int .i64 P) (w' := w) ho e4 (by simp [execOp, e3, ev, evc, V1, V2, x3 w, eqGuard]) (by rw [e2]; exact go rfl (Below.refl _ _) hw rfl)
    · obtain ⟨o', e1, e2, e3, e4, e5⟩ := o4
      obtain rfl := Option.some.inj (ho.symm.trans e1)
      have dp := dep_of' e5 hdep
      have U12 : a.tmps.getD 12 undef = .int .i64 k := (kp 12 (by decide)).trans u12
      exact wpOp_value (v := .int .i64 k) (w' := w) ho e4 (by simp [execOp, e3, ev, evc, U12]) (by rw [e2]; exact go rfl (Below.refl _ _) hw rfl)
    · obtain ⟨o', e1, e2, e3, e4, e5⟩ := o5
      obtain rfl := Option.some.inj (ho.symm.trans e1)
      have dp := dep_of' e5 hdep
      have V4 : a.tmps.getD 43 undef = .int .i64 k := hI.val 4 43 (by decide) rfl (dp 4 (by decide))
      exact wpOp_value (v := .int .i64 ((k : Int) + 1)) (w' := w) ho e4 (by simp [execOp, e3, ev, evc, V4, x5 w, eqGuard]) (by rw [e2]; exact go rfl (Below.refl _ _) hw rfl)
    · obtain ⟨o', e1, e2, e3, e4, e5⟩ := o6
      obtain rfl := Option.some.inj (ho.symm.trans e1)
      have dp := dep_of' e5 hdep
      have U10 : a.tmps.getD 10 undef = .int .i64 dd := (kp 10 (by decide)).trans u10
      exact wpOp_value (v := .int .i64 dd) (w' := w) ho e4 (by simp [execOp, e3, ev, evc, U10]) (by rw [e2]; exact go rfl (Below.refl _ _) hw rfl)
    · obtain ⟨o', e1, e2, e3, e4, e5⟩ := o7
      obtain rfl := Option.some.inj (ho.symm.trans e1)
      have dp := dep_of' e5 hdep
      have V5 : a.tmps.getD 44 undef = .int .i64 ((k : Int) + 1) := hI.val 5 44 (by decide) rfl (dp 5 (by decide))
      have V6 : a.tmps.getD 45 undef = .int .i64 dd := hI.val 6 45 (by decide) rfl (dp 6 (by decide))
      exact wpOp_value (v := .int .i64 Y) (w' := w) ho e4 (by simp [execOp, e3, ev, evc, V5, V6, x7 w, eqGuard]) (by rw [e2]; exact go rfl (Below.refl _ _) hw rfl)
    · obtain ⟨o', e1, e2, e3, e4, e5⟩ := o8
      obtain rfl := Option.some.inj (ho.symm.trans e1)
      have dp := dep_of' e5 hdep
      have V0 : a.tmps.getD 39 undef = .slice (some x) N c0 := hI.val 0 39 (by decide) rfl (dp 0 (by decide))
      have V3 : a.tmps.getD 42 undef = .int .i64 P := hI.val 3 42 (by decide) rfl (dp 3 (by decide))
      have V7 : a.tmps.getD 46 undef = .int .i64 Y := hI.val 7 46 (by decide) rfl (dp 7 (by decide))
      exact wpOp_value (v := .slice (some (x.add P)) dd (c0 - P)) (w' := w) ho e4 (by simp [execOp, e3, ev, evc, V0, V3, V7, x8 w]) (by rw [e2]; exact go rfl (Below.refl _ _) hw rfl)
    · obtain ⟨o', e1, e2, e3, e4, e5⟩ := o9
      obtain rfl := Option.some.inj (ho.symm.trans e1)
      have dp := dep_of' e5 hdep
      have U1 : a.tmps.getD 1 undef = .slice a1 n c1 := (kp 1 (by decide)).trans u1
      exact wpOp_value (v := .slice a1 n c1) (w' := w) ho e4 (by simp [execOp, e3, ev, evc, U1]) (by rw [e2]; exact go rfl (Below.refl _ _) hw rfl)
    · obtain ⟨o', e1, e2, e3, e4, e5⟩ := o10
      obtain rfl := Option.some.inj (ho.symm.trans e1)
      have dp := dep_of' e5 hdep
      have U12 : a.tmps.getD 12 undef = .int .i64 k := (kp 12 (by decide)).trans u12
      exact wpOp_value (v := .int .i64 k) (w' := w) ho e4 (by simp [execOp, e3, ev, evc, U12]) (by rw [e2]; exact go rfl (Below.refl _ _) hw rfl)
    · obtain ⟨o', e1, e2, e3, e4, e5⟩ := o11
      obtain rfl := Option.some.inj (ho.symm.trans e1)
      have dp := dep_of' e5 hdep
      have U10 : a.tmps.getD 10 undef = .int .i64 dd := (kp 10 (by decide)).trans u10
      exact wpOp_value (v := .int .i64 dd) (w' := w) ho e4 (by simp [execOp, e3, ev, evc, U10]) (by rw [e2]; exact go rfl (Below.refl _ _) hw rfl)
    · obtain ⟨o', e1, e2, e3, e4, e5⟩ := o12
      obtain rfl := Option.some.inj (ho.symm.trans e1)
      have dp := dep_of' e5 hdep
      have V10 : a.tmps.getD 49 undef = .int .i64 k := hI.val 10 49 (by decide) rfl (dp 10 (by decide))
      have V11 : a.tmps.getD 50 undef = .int .i64 dd := hI.val 11 50 (by decide) rfl (dp 11 (by decide))
      exact wpOp_value (v := .int .i64 P) (w' := w) ho e4 (by simp [execOp, e3, ev, evc, V10, V11, x12 w, eqGuard]) (by rw [e2]; exact go rfl (Below.refl _ _) hw rfl)
    · obtain ⟨o', e1, e2, e3, e4, e5⟩ := o13
      obtain rfl := Option.some.inj (ho.symm.trans e1)
      have dp := dep_of' e5 hdep
      have U10 : a.tmps.getD 10 undef = .int .i64 dd := (kp 10 (by decide)).trans u10
      exact wpOp_value (v := .int .i64 dd) (w' := w) ho e4 (by simp [execOp, e3, ev, evc, U10]) (by rw [e2]; exact go rfl (Below.refl _ _) hw rfl)
    · obtain ⟨o', e1, e2, e3, e4, e5⟩ := o14
      obtain rfl := Option.some.inj (ho.symm.trans e1)
      have dp := dep_of' e5 hdep
      have V9 : a.tmps.getD 48 undef = .slice a1 n c1 := hI.val 9 48 (by decide) rfl (dp 9 (by decide))
      have V12 : a.tmps.getD 51 undef = .int .i64 P := hI.val 12 51 (by decide) rfl (dp 12 (by decide))
      have V13 : a.tmps.getD 52 undef = .int .i64 dd := hI.val 13 52 (by decide) rfl (dp 13 (by decide))
      refine wpOp_call (f := 32) (args := #[.slice a1 n c1, .int .i64 P, .int .i64 dd]) ho e4 (by simp [execOp, e3, resolve, invoke, Deferred.ofValue, r32, ev, evf, evc, V9, V12, V13]) ((x14 w hw).mono ?_)
      rintro e W' ⟨b, j, rfl, hr6, hb6, hs6⟩
      refine ⟨_, rfl, ?_⟩
      rw [e2]
      exact go rfl hb6 hs6 ⟨b, j, rfl, hr6⟩
    · obtain ⟨o', e1, e2, e3, e4, e5⟩ := o15
      obtain rfl := Option.some.inj (ho.symm.trans e1)
      have dp := dep_of' e5 hdep
      have U2 : a.tmps.getD 2 undef = .slice a2 n c2 := (kp 2 (by decide)).trans u2
      exact wpOp_value (v := .slice a2 n c2) (w' := w) ho e4 (by simp [execOp, e3, ev, evc, U2]) (by rw [e2]; exact go rfl (Below.refl _ _) hw rfl)
    · obtain ⟨o', e1, e2, e3, e4, e5⟩ := o16
      obtain rfl := Option.some.inj (ho.symm.trans e1)
      have dp := dep_of' e5 hdep
      have U12 : a.tmps.getD 12 undef = .int .i64 k := (kp 12 (by decide)).trans u12
      exact wpOp_value (v := .int .i64 k) (w' := w) ho e4 (by simp [execOp, e3, ev, evc, U12]) (by rw [e2]; exact go rfl (Below.refl _ _) hw rfl)
    · obtain ⟨o', e1, e2, e3, e4, e5⟩ := o17
      obtain rfl := Option.some.inj (ho.symm.trans e1)
      have dp := dep_of' e5 hdep
      have U10 : a.tmps.getD 10 undef = .int .i64 dd := (kp 10 (by decide)).trans u10
      exact wpOp_value (v := .int .i64 dd) (w' := w) ho e4 (by simp [execOp, e3, ev, evc, U10]) (by rw [e2]; exact go rfl (Below.refl _ _) hw rfl)
    · obtain ⟨o', e1, e2, e3, e4, e5⟩ := o18
      obtain rfl := Option.some.inj (ho.symm.trans e1)
      have dp := dep_of' e5 hdep
      have V16 : a.tmps.getD 55 undef = .int .i64 k := hI.val 16 55 (by decide) rfl (dp 16 (by decide))
      have V17 : a.tmps.getD 56 undef = .int .i64 dd := hI.val 17 56 (by decide) rfl (dp 17 (by decide))
      exact wpOp_value (v := .int .i64 P) (w' := w) ho e4 (by simp [execOp, e3, ev, evc, V16, V17, x18 w, eqGuard]) (by rw [e2]; exact go rfl (Below.refl _ _) hw rfl)
    · obtain ⟨o', e1, e2, e3, e4, e5⟩ := o19
      obtain rfl := Option.some.inj (ho.symm.trans e1)
      have dp := dep_of' e5 hdep
      have U10 : a.tmps.getD 10 undef = .int .i64 dd := (kp 10 (by decide)).trans u10
      exact wpOp_value (v := .int .i64 dd) (w' := w) ho e4 (by simp [execOp, e3, ev, evc, U10]) (by rw [e2]; exact go rfl (Below.refl _ _) hw rfl)
    · obtain ⟨o', e1, e2, e3, e4, e5⟩ := o20
      obtain rfl := Option.some.inj (ho.symm.trans e1)
      have dp := dep_of' e5 hdep
      have V15 : a.tmps.getD 54 undef = .slice a2 n c2 := hI.val 15 54 (by decide) rfl (dp 15 (by decide))
      have V18 : a.tmps.getD 57 undef = .int .i64 P := hI.val 18 57 (by decide) rfl (dp 18 (by decide))
      have V19 : a.tmps.getD 58 undef = .int .i64 dd := hI.val 19 58 (by decide) rfl (dp 19 (by decide))
      refine wpOp_call (f := 32) (args := #[.slice a2 n c2, .int .i64 P, .int .i64 dd]) ho e4 (by simp [execOp, e3, resolve, invoke, Deferred.ofValue, r32, ev, evf, evc, V15, V18, V19]) ((x20 w hw).mono ?_)
      rintro e W' ⟨b, j, rfl, hr6, hb6, hs6⟩
      refine ⟨_, rfl, ?_⟩
      rw [e2]
      exact go rfl hb6 hs6 ⟨b, j, rfl, hr6⟩
    · obtain ⟨o', e1, e2, e3, e4, e5⟩ := o21
      obtain rfl := Option.some.inj (ho.symm.trans e1)
      have dp := dep_of' e5 hdep
      have V8 : a.tmps.getD 47 undef = .slice (some (x.add P)) dd (c0 - P) := hI.val 8 47 (by decide) rfl (dp 8 (by decide))
      obtain ⟨b14, j14, V14, f14⟩ : ∃ b j, a.tmps.getD 53 undef = .slice b n j ∧ Grid w b n (cutA A P) (fun r => C r - P) (cutR K P dd) := hI.val 14 53 (by decide) rfl (dp 14 (by decide))
      obtain ⟨b20, j20, V20, f20⟩ : ∃ b j, a.tmps.getD 59 undef = .slice b n j ∧ Grid w b n (cutA A' P) (fun r => C' r - P) (cutR V P dd) := hI.val 20 59 (by decide) rfl (dp 20 (by decide))
      refine wpOp_call (f := 11) (args := #[.slice (some (x.add P)) dd (c0 - P), .slice b14 n j14, .slice b20 n j20]) ho e4 (by simp [execOp, e3, resolve, invoke, Deferred.ofValue, r11, ev, evf, evc, V8, V14, V20]) ((x21 w hw b14 j14 b20 j20 f14 f20).mono ?_)
      rintro e W' ⟨b, j, rfl, hr6, hz6, hb6, hs6⟩
      refine ⟨_, rfl, ?_⟩
      rw [e2]
      exact go rfl hb6 hs6 ⟨b, j, rfl, hr6, hz6⟩
    · obtain ⟨o', e1, e2, e3, e4, e5⟩ := o22
      obtain rfl := Option.some.inj (ho.symm.trans e1)
      have dp := dep_of' e5 hdep
      obtain ⟨b21, j21, V21, f21, z21⟩ : ∃ b j, a.tmps.getD 60 undef = .tuple #[.slice b dd j, .int .i64 0] ∧ Reads .i64 w b dd O ∧ (b = none → j = 0) := hI.val 21 60 (by decide) rfl (dp 21 (by decide))
      exact wpOp_value (v := .tuple #[.slice b21 dd j21, .int .i64 0]) (w' := w) ho e4 (by simp [execOp, e3, ev, evc, V21]) (by rw [e2]; exact go rfl (Below.refl _ _) hw ⟨_, _, rfl, f21, z21⟩)
    · obtain ⟨o', e1, e2, e3, e4, e5⟩ := o23
      obtain rfl := Option.some.inj (ho.symm.trans e1)
      have dp := dep_of' e5 hdep
      obtain ⟨b22, j22, V22, f22, z22⟩ : ∃ b j, a.tmps.getD 38 undef = .tuple #[.slice b dd j, .int .i64 0] ∧ Reads .i64 w b dd O ∧ (b = none → j = 0) := hI.val 22 38 (by decide) rfl (dp 22 (by decide))
      exact wpOp_value (v := .slice b22 dd j22) (w' := w) ho e4 (by simp [execOp, e3, ev, evc, V22, Instr.extract]) (by rw [e2]; exact go rfl (Below.refl _ _) hw ⟨_, _, rfl, f22, z22⟩)
    · obtain ⟨o', e1, e2, e3, e4, e5⟩ := o24
      obtain rfl := Option.some.inj (ho.symm.trans e1)
      have dp := dep_of' e5 hdep
      obtain ⟨b22, j22, V22, f22, z22⟩ : ∃ b j, a.tmps.getD 38 undef = .tuple #[.slice b dd j, .int .i64 0] ∧ Reads .i64 w b dd O ∧ (b = none → j = 0) := hI.val 22 38 (by decide) rfl (dp 22 (by decide))
      exact wpOp_value (v := .int .i64 0) (w' := w) ho e4 (by simp [execOp, e3, ev, evc, V22, Instr.extract]) (by rw [e2]; exact go rfl (Below.refl _ _) hw rfl)
    · obtain ⟨o', e1, e2, e3, e4, e5⟩ := o25
      obtain rfl := Option.some.inj (ho.symm.trans e1)
      have dp := dep_of' e5 hdep
      obtain ⟨b23, j23, V23, f23, z23⟩ : ∃ b j, a.tmps.getD 61 undef = .slice b dd j ∧ Reads .i64 w b dd O ∧ (b = none → j = 0) := hI.val 23 61 (by decide) rfl (dp 23 (by decide))
      exact wpOp_value (v := .slice b23 dd j23) (w' := w) ho e4 (by simp [execOp, e3, ev, evc, V23]) (by rw [e2]; exact go rfl (Below.refl _ _) hw ⟨_, _, rfl, f23, z23⟩)
    · obtain ⟨o', e1, e2, e3, e4, e5⟩ := o26
      obtain rfl := Option.some.inj (ho.symm.trans e1)
      have dp := dep_of' e5 hdep
      have V24 : a.tmps.getD 62 undef = .int .i64 0 := hI.val 24 62 (by decide) rfl (dp 24 (by decide))
      exact wpOp_value (v := .int .i64 0) (w' := w) ho e4 (by simp [execOp, e3, ev, evc, V24]) (by rw [e2]; exact go rfl (Below.refl _ _) hw rfl)
  · intro l a w hall hI
    have all : ∀ j, j < 27 → l j = true := fun j hj => hall j (by rw [hsz]; exact hj)
    exact fin a w hI.size hI.defers hI.kept hI.world (fun i d hi hD => hI.val i d hi hD (all i hi))

end Go.Proofs.Ythbddbipmoflfaa
