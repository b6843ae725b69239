/- Regions in which beams are made and grown, whatever the order. -/
import Derived.Test.YteeljnibglnflaaRows
import Derived.Test.YteeljnibglnflaaView
import Derived.Test.YteeljnibglnflaaGInvIn
import Derived.Test.YteeljnibglnflaaBmReg
import Derived.Test.YteeljnibglnflaaBmZ
import Derived.Test.YteeljnibglnflaaBmAt
import Derived.Test.YteeljnibglnflaaBmSwap
import Derived.Test.YteeljnibglnflaaBmBox
import Derived.WalkKit
import Derived.ProofKit
import Derived.OpenShut
import Derived.WalkLawsBesides
import Derived.Below
import Derived.Deep.QuietTactic
import Derived.BigQuiet
import Derived.Laws.AppendOwnNone
import Derived.Orders
namespace Go.Proofs.Yteeljnibglnflaa
set_option maxRecDepth 20000
open Go.ChangeShapes Go.WideShapes Go.ChangeAt Go.RowKit
set_option linter.unusedVariables false
set_option linter.unusedSimpArgs false

theorem hidden_ {p : Prop} (h : p) : Hid p := h

theorem wpOp_value_b {P : Program} {ops : Array Oper} {Q : Exit → Act → World → Prop} {i gi p : Nat} {bb : Bool} {o og : Oper} {a : Act} {w w' : World} {v : Value} {K : Act → World → Prop} (ho : ops[i]? = some o) (hg : o.guard = some (gi, bb)) (hgo : ops[gi]? = some og) (hgd : og.dst = some p) (hp : p < a.tmps.size) (hb : a.tmps.getD p undef = .bool bb)
    (hr : (execOp a.eval o).run P w = .ok (.value v) w') (hK : K (a.put o.dst v) w') : wpOp P ops Q i K a w := by
  have hy : yielded ops a.tmps gi = some bb := by
    unfold yielded
    rw [hgo]
    simp only [Option.bind_some, hgd]
    rw [Array.getD_eq_getD_getElem?] at hb
    rw [Array.getElem?_eq_getElem hp] at hb ⊢
    simp only [Option.getD_some] at hb
    rw [hb]
  unfold wpOp
  simp only [ho]
  have hw : Region.wanted o (yielded ops a.tmps) = true := by simp [Region.wanted, hg, hy]
  rw [if_pos hw]
  refine .inl ?_
  unfold Oper.wp
  rw [hr]
  exact hK
theorem wpOp_call_b {P : Program} {ops : Array Oper} {Q : Exit → Act → World → Prop} {i gi p : Nat} {bb : Bool} {o og : Oper} {a : Act} {w : World} {f : FuncId} {args : Array Value} {K : Act → World → Prop} (ho : ops[i]? = some o) (hg : o.guard = some (gi, bb)) (hgo : ops[gi]? = some og) (hgd : og.dst = some p) (hp : p < a.tmps.size) (hb : a.tmps.getD p undef = .bool bb)
    (hr : (execOp a.eval o).run P w = .ok (.enter f args) w) (c : Calls P f args w fun e w' => ∃ v, e = .returned v ∧ K (a.put o.dst v) w') : wpOp P ops Q i K a w := by
  have hy : yielded ops a.tmps gi = some bb := by
    unfold yielded
    rw [hgo]
    simp only [Option.bind_some, hgd]
    rw [Array.getD_eq_getD_getElem?] at hb
    rw [Array.getElem?_eq_getElem hp] at hb ⊢
    simp only [Option.getD_some] at hb
    rw [hb]
  unfold wpOp
  simp only [ho]
  have hw : Region.wanted o (yielded ops a.tmps) = true := by simp [Region.wanted, hg, hy]
  rw [if_pos hw]
  refine .inl ?_
  unfold Oper.wp
  rw [hr]
  unfold Oper.upon
  refine c.mono ?_
  rintro e w' ⟨v, rfl, hK⟩
  exact hK
def ogD (i : Nat) : Option Nat := match i with | 0 => some 14 | 1 => some 15 | 2 => some 16 | 3 => some 17 | 4 => some 18 | 5 => some 19 | 6 => some 20 | 7 => some 21 | 8 => some 22 | 9 => some 23 | 10 => some 24 | 11 => some 25 | 12 => some 13 | 13 => some 26 | 14 => some 27 | 15 => some 28 | 16 => some 3 | 17 => some 4 | 18 => some 5 | _ => none
theorem ogD_inj : ∀ i, i < 19 → ∀ j, j < 19 → ogD i = ogD j → ogD i ≠ none → i = j := by decide
theorem ogD_lt : ∀ i, i < 19 → ∀ d, ogD i = some d → d < 192 := by
  intro i hi d h
  have : ∀ i, i < 19 → (ogD i).all (fun d => decide (d < 192)) = true := by decide
  have := this i hi
  rw [h] at this
  simpa using this
def ogF (bx nn mm : Nat) (la ra : Option Addr) (lc rc : Nat) (wd ln st ec : Int) (qn : Nat) (LL LG : Nat → Bm) (GP : List Int) (i : Nat) (q : Value) (w : World) : Prop := match i with
  | 0 => q = .pointer (some ⟨bx, 0, none⟩)
  | 1 => q = .slice la nn lc
  | 2 => ∃ xa xc XA XC, q = .slice xa nn xc ∧ BmAt w xa nn XA XC LL
  | 3 => q = .pointer (some ⟨bx, 1, none⟩)
  | 4 => q = .slice ra mm rc
  | 5 => q = .pointer (some ⟨bx, 2, none⟩)
  | 6 => q = .int .i64 wd
  | 7 => q = .pointer (some ⟨bx, 3, none⟩)
  | 8 => q = .int .i64 ln
  | 9 => q = .pointer (some ⟨bx, 4, none⟩)
  | 10 => q = .int .i64 st
  | 11 => ∃ ya yb yc yd Ar Cr, q = .tuple #[.slice ya qn yc, .slice yb qn yd, .int .i64 ec] ∧ qn ≤ yc ∧ qn ≤ yd ∧ BmC w ya qn Ar Cr LG ∧ Reads .i64 w yb qn GP
  | 12 => ∃ ya yb yc yd Ar Cr, q = .tuple #[.slice ya qn yc, .slice yb qn yd, .int .i64 ec] ∧ qn ≤ yc ∧ qn ≤ yd ∧ BmC w ya qn Ar Cr LG ∧ Reads .i64 w yb qn GP
  | 13 => ∃ ya yc Ar Cr, q = .slice ya qn yc ∧ qn ≤ yc ∧ BmC w ya qn Ar Cr LG
  | 14 => ∃ yb yd, q = .slice yb qn yd ∧ qn ≤ yd ∧ Reads .i64 w yb qn GP
  | 15 => q = .int .i64 ec
  | 16 => ∃ ya yc Ar Cr, q = .slice ya qn yc ∧ qn ≤ yc ∧ BmC w ya qn Ar Cr LG
  | 17 => ∃ yb yd, q = .slice yb qn yd ∧ qn ≤ yd ∧ Reads .i64 w yb qn GP
  | 18 => q = .int .i64 ec
  | _ => True
theorem ogF_below {bx nn mm : Nat} {la ra : Option Addr} {lc rc : Nat} {wd ln st ec : Int} {qn : Nat} {LL LG : Nat → Bm} {GP : List Int} {i : Nat} {q : Value} {w w' : World} (h : ogF bx nn mm la ra lc rc wd ln st ec qn LL LG GP i q w) (hb : Below w.heap.size w w') : ogF bx nn mm la ra lc rc wd ln st ec qn LL LG GP i q w' := by
  unfold ogF at h ⊢
  split
  · exact h
  · exact h
  · obtain ⟨xa, xc, XA, XC, h1, h2⟩ := h; exact ⟨xa, xc, XA, XC, h1, h2.below hb⟩
  · exact h
  · exact h
  · exact h
  · exact h
  · exact h
  · exact h
  · exact h
  · exact h
  · obtain ⟨ya, yb, yc, yd, Ar, Cr, h1, h2, h3, h4, h5⟩ := h; exact ⟨ya, yb, yc, yd, Ar, Cr, h1, h2, h3, h4.below hb, h5.below hb⟩
  · obtain ⟨ya, yb, yc, yd, Ar, Cr, h1, h2, h3, h4, h5⟩ := h; exact ⟨ya, yb, yc, yd, Ar, Cr, h1, h2, h3, h4.below hb, h5.below hb⟩
  · obtain ⟨ya, yc, Ar, Cr, h1, h2, h3⟩ := h; exact ⟨ya, yc, Ar, Cr, h1, h2, h3.below hb⟩
  · obtain ⟨yb, yd, h1, h2, h3⟩ := h; exact ⟨yb, yd, h1, h2, h3.below hb⟩
  · exact h
  · obtain ⟨ya, yc, Ar, Cr, h1, h2, h3⟩ := h; exact ⟨ya, yc, Ar, Cr, h1, h2, h3.below hb⟩
  · obtain ⟨yb, yd, h1, h2, h3⟩ := h; exact ⟨yb, yd, h1, h2, h3.below hb⟩
  · exact h
  · trivial

set_option maxHeartbeats 8000000 in
theorem og_region {id : Nat} {ops : Array Oper} {Q : Exit → Act → World → Prop} {a0 : Act} {w0 : World} (bx nn mm : Nat) (la ra : Option Addr) (lc rc : Nat) (wd ln st ec : Int) (qn : Nat) (LL LG : Nat → Bm) (GP : List Int) (S : World → Prop) (hlow : lowB ops = true) (hsz : ops.size = 19)
    (o0 : OpIn ops 0 (some 14) (.fieldAddr 25 (.tmp 1) 0) none []) (o1 : OpIn ops 1 (some 15) (.load 22 (.tmp 14)) none [0]) (o2 : OpIn ops 2 (some 16) (.call { callee := .value (.func 9), args := #[.tmp 15], argTypes := #[22] }) none [1]) (o3 : OpIn ops 3 (some 17) (.fieldAddr 25 (.tmp 1) 1) none []) (o4 : OpIn ops 4 (some 18) (.load 23 (.tmp 17)) none [3]) (o5 : OpIn ops 5 (some 19) (.fieldAddr 25 (.tmp 1) 2) none []) (o6 : OpIn ops 6 (some 20) (.load 3 (.tmp 19)) none [5]) (o7 : OpIn ops 7 (some 21) (.fieldAddr 25 (.tmp 1) 3) none []) (o8 : OpIn ops 8 (some 22) (.load 3 (.tmp 21)) none [7]) (o9 : OpIn ops 9 (some 23) (.fieldAddr 25 (.tmp 1) 4) none []) (o10 : OpIn ops 10 (some 24) (.load 3 (.tmp 23)) none [9]) (o11 : OpIn ops 11 (some 25) (.call { callee := .value (.func 10), args := #[.tmp 16, .tmp 18, .tmp 20, .tmp 22, .tmp 24], argTypes := #[27, 23, 3, 3, 3] }) none [2, 4, 6, 8, 10]) (o12 : OpIn ops 12 (some 13) (.move (.tmp 25)) none [11]) (o13 : OpIn ops 13 (some 26) (.extract (.tmp 13) 0) none [12]) (o14 : OpIn ops 14 (some 27) (.extract (.tmp 13) 1) none [12]) (o15 : OpIn ops 15 (some 28) (.extract (.tmp 13) 2) none [12]) (o16 : OpIn ops 16 (some 3) (.assign (.tmp 26)) none [13]) (o17 : OpIn ops 17 (some 4) (.assign (.tmp 27)) none [14]) (o18 : OpIn ops 18 (some 5) (.assign (.tmp 28)) none [15])
    (hS : S w0.drew)
    (x0 : ∀ w, (Instr.fieldAt 25 (.pointer (some ⟨bx, 0, none⟩)) 0).run Try.prog w = .ok (.pointer (some ⟨bx, 0, none⟩)) w)
    (x1 : ∀ w, S w → (Instr.loadAt 22 (.pointer (some ⟨bx, 0, none⟩))).run Try.prog w = .ok (.slice la nn lc) w)
    (x2 : ∀ w, S w → Calls Try.prog 9 #[.slice la nn lc] w fun e w' => (∃ xa xc XA XC, e = .returned (.slice xa nn xc) ∧ BmAt w' xa nn XA XC LL) ∧ Below w.heap.size w w' ∧ S w')
    (x3 : ∀ w, (Instr.fieldAt 25 (.pointer (some ⟨bx, 0, none⟩)) 1).run Try.prog w = .ok (.pointer (some ⟨bx, 1, none⟩)) w)
    (x4 : ∀ w, S w → (Instr.loadAt 23 (.pointer (some ⟨bx, 1, none⟩))).run Try.prog w = .ok (.slice ra mm rc) w)
    (x5 : ∀ w, (Instr.fieldAt 25 (.pointer (some ⟨bx, 0, none⟩)) 2).run Try.prog w = .ok (.pointer (some ⟨bx, 2, none⟩)) w)
    (x6 : ∀ w, S w → (Instr.loadAt 3 (.pointer (some ⟨bx, 2, none⟩))).run Try.prog w = .ok (.int .i64 wd) w)
    (x7 : ∀ w, (Instr.fieldAt 25 (.pointer (some ⟨bx, 0, none⟩)) 3).run Try.prog w = .ok (.pointer (some ⟨bx, 3, none⟩)) w)
    (x8 : ∀ w, S w → (Instr.loadAt 3 (.pointer (some ⟨bx, 3, none⟩))).run Try.prog w = .ok (.int .i64 ln) w)
    (x9 : ∀ w, (Instr.fieldAt 25 (.pointer (some ⟨bx, 0, none⟩)) 4).run Try.prog w = .ok (.pointer (some ⟨bx, 4, none⟩)) w)
    (x10 : ∀ w, S w → (Instr.loadAt 3 (.pointer (some ⟨bx, 4, none⟩))).run Try.prog w = .ok (.int .i64 st) w)
    (x11 : ∀ w xa xc XA XC, S w → BmAt w xa nn XA XC LL → Calls Try.prog 10 #[.slice xa nn xc, .slice ra mm rc, .int .i64 wd, .int .i64 ln, .int .i64 st] w fun e w' => (∃ ya yb yc yd Ar Cr, e = .returned (.tuple #[.slice ya qn yc, .slice yb qn yd, .int .i64 ec]) ∧ qn ≤ yc ∧ qn ≤ yd ∧ BmC w' ya qn Ar Cr LG ∧ Reads .i64 w' yb qn GP) ∧ Below w.heap.size w w' ∧ S w')
    (u1 : a0.tmps.getD 1 undef = .pointer (some ⟨bx, 0, none⟩))
    (hs : 192 ≤ a0.tmps.size)
    (fin : ∀ a w, a.tmps.size = a0.tmps.size → a.defers = a0.defers → (∀ s, (∀ i, i < 19 → ogD i ≠ some s) → a.tmps.getD s undef = a0.tmps.getD s undef) → S w → (∀ i d, i < 19 → ogD i = some d → ogF bx nn mm la ra lc rc wd ln st ec qn LL LG GP i (a.tmps.getD d undef) w) → Q .normal a w) : (Code.region id ops true).wp Try.prog Q a0 w0 := by
  have r9 : ∀ args w, (callFunc 9 args).run Try.prog w = .ok (.enter 9 args) w := enters_of Try.func9 (by kernel_rfl) rfl
  have r10 : ∀ args w, (callFunc 10 args).run Try.prog w = .ok (.enter 10 args) w := enters_of Try.func10 (by kernel_rfl) rfl
  refine wp_region_inv2 (by kernel_rfl) hlow (Inv 19 ogD a0 (fun l a w => S w ∧ Kept2 19 ogD a0 l a) (fun _ => ogF bx nn mm la ra lc rc wd ln st ec qn LL LG GP)) (Inv.start ⟨hS, kept2_start _ _ _⟩) ?_ ?_
  · intro l i o a w ho hl hcl hdep hI
    have hi : i < 19 := by rw [← hsz]; exact (Array.getElem?_eq_some_iff.1 ho).1
    have ev : ∀ (s : Nat), a.eval (.tmp s) = a.tmps.getD s undef := fun _ => rfl
    have evf : ∀ f, a.eval (.func f) = .func (.func f) #[] #[] := fun _ => rfl
    have evc : ∀ c : Value, a.eval (.const c) = c := fun _ => rfl
    have inj : ∀ d, ogD i = some d → ∀ j d', j < 19 → ogD j = some d' → j ≠ i → d' ≠ d := fun d hd j d' hj hd' hne e => hne (ogD_inj j hj i hi (by rw [hd', hd, e]) (by rw [hd']; simp))
    have kp : ∀ s, (∀ i, i < 19 → ogD i ≠ some s) → a.tmps.getD s undef = a0.tmps.getD s undef := hI.kept
    have hw : S w := hI.world.1
    have k2 := hI.world.2
    have ex0 := hI.world.2
    have go : ∀ {d : Nat} {v : Value} {w' : World}, ogD i = some d → Below w.heap.size w w' → S w' → ogF bx nn mm la ra lc rc wd ln st ec qn LL LG GP i v w' → Inv 19 ogD a0 (fun l a w => S w ∧ Kept2 19 ogD a0 l a) (fun _ => ogF bx nn mm la ra lc rc wd ln st ec qn LL LG GP) (fun j => l j || j == i) (a.put (some d) v) w' := by
      intro d v w' hD hb hS' hF
      exact hI.put hi hD (Nat.lt_of_lt_of_le (ogD_lt i hi d hD) hs) (inj d hD) ⟨hS', k2.put hD (by rw [hI.size]; exact Nat.lt_of_lt_of_le (ogD_lt i hi d hD) hs) hi⟩ hF (fun j u _ _ _ hf => ogF_below hf hb)
    rcases (show i = 0 ∨ i = 1 ∨ i = 2 ∨ i = 3 ∨ i = 4 ∨ i = 5 ∨ i = 6 ∨ i = 7 ∨ i = 8 ∨ i = 9 ∨ i = 10 ∨ i = 11 ∨ i = 12 ∨ i = 13 ∨ i = 14 ∨ i = 15 ∨ i = 16 ∨ i = 17 ∨ i = 18 by omega) with rfl | rfl | rfl | rfl | rfl | rfl | rfl | rfl | rfl | rfl | rfl | rfl | rfl | rfl | rfl | rfl | rfl | rfl | rfl
    · obtain ⟨o', e1, e2, e3, e4, e5⟩ := o0
      obtain rfl := Option.some.inj (ho.symm.trans e1)
      have dp := dep_of' e5 hdep
      have U1 : a.tmps.getD 1 undef = .pointer (some ⟨bx, 0, none⟩) := (kp 1 (by decide)).trans u1
      exact wpOp_value (v := .pointer (some ⟨bx, 0, none⟩)) (w' := w) ho e4 (by simp [execOp, e3, ev, evc, U1, x0 w]) (by rw [e2]; exact go rfl (Below.refl _ _) hw rfl)
    · obtain ⟨o', e1, e2, e3, e4, e5⟩ := o1
      obtain rfl := Option.some.inj (ho.symm.trans e1)
      have dp := dep_of' e5 hdep
      have V0 : a.tmps.getD 14 undef = .pointer (some ⟨bx, 0, none⟩) := hI.val 0 14 (by decide) rfl (dp 0 (by decide))
      exact wpOp_value (v := .slice la nn lc) (w' := w) ho e4 (by simp [execOp, e3, ev, evc, V0, x1 w hw]) (by rw [e2]; exact go rfl (Below.refl _ _) hw rfl)
    · obtain ⟨o', e1, e2, e3, e4, e5⟩ := o2
      obtain rfl := Option.some.inj (ho.symm.trans e1)
      have dp := dep_of' e5 hdep
      have V1 : a.tmps.getD 15 undef = .slice la nn lc := hI.val 1 15 (by decide) rfl (dp 1 (by decide))
      refine wpOp_call (f := 9) (args := #[.slice la nn lc]) ho e4 (by simp [execOp, e3, resolve, invoke, Deferred.ofValue, r9, ev, evf, evc, V1]) ((x2 w hw).mono ?_)
      rintro e W' ⟨⟨xa, xc, XA, XC, rfl, h1⟩, hb6, hs6⟩
      refine ⟨_, rfl, ?_⟩
      rw [e2]
      exact go rfl hb6 hs6 ⟨xa, xc, XA, XC, rfl, h1⟩
    · obtain ⟨o', e1, e2, e3, e4, e5⟩ := o3
      obtain rfl := Option.some.inj (ho.symm.trans e1)
      have dp := dep_of' e5 hdep
      have U1 : a.tmps.getD 1 undef = .pointer (some ⟨bx, 0, none⟩) := (kp 1 (by decide)).trans u1
      exact wpOp_value (v := .pointer (some ⟨bx, 1, none⟩)) (w' := w) ho e4 (by simp [execOp, e3, ev, evc, U1, x3 w]) (by rw [e2]; exact go rfl (Below.refl _ _) hw rfl)
    · obtain ⟨o', e1, e2, e3, e4, e5⟩ := o4
      obtain rfl := Option.some.inj (ho.symm.trans e1)
      have dp := dep_of' e5 hdep
      have V3 : a.tmps.getD 17 undef = .pointer (some ⟨bx, 1, none⟩) := hI.val 3 17 (by decide) rfl (dp 3 (by decide))
      exact wpOp_value (v := .slice ra mm rc) (w' := w) ho e4 (by simp [execOp, e3, ev, evc, V3, x4 w hw]) (by rw [e2]; exact go rfl (Below.refl _ _) hw rfl)
    · obtain ⟨o', e1, e2, e3, e4, e5⟩ := o5
      obtain rfl := Option.some.inj (ho.symm.trans e1)
      have dp := dep_of' e5 hdep
      have U1 : a.tmps.getD 1 undef = .pointer (some ⟨bx, 0, none⟩) := (kp 1 (by decide)).trans u1
      exact wpOp_value (v := .pointer (some ⟨bx, 2, none⟩)) (w' := w) ho e4 (by simp [execOp, e3, ev, evc, U1, x5 w]) (by rw [e2]; exact go rfl (Below.refl _ _) hw rfl)
    · obtain ⟨o', e1, e2, e3, e4, e5⟩ := o6
      obtain rfl := Option.some.inj (ho.symm.trans e1)
      have dp := dep_of' e5 hdep
      have V5 : a.tmps.getD 19 undef = .pointer (some ⟨bx, 2, none⟩) := hI.val 5 19 (by decide) rfl (dp 5 (by decide))
      exact wpOp_value (v := .int .i64 wd) (w' := w) ho e4 (by simp [execOp, e3, ev, evc, V5, x6 w hw]) (by rw [e2]; exact go rfl (Below.refl _ _) hw rfl)
    · obtain ⟨o', e1, e2, e3, e4, e5⟩ := o7
      obtain rfl := Option.some.inj (ho.symm.trans e1)
      have dp := dep_of' e5 hdep
      have U1 : a.tmps.getD 1 undef = .pointer (some ⟨bx, 0, none⟩) := (kp 1 (by decide)).trans u1
      exact wpOp_value (v := .pointer (some ⟨bx, 3, none⟩)) (w' := w) ho e4 (by simp [execOp, e3, ev, evc, U1, x7 w]) (by rw [e2]; exact go rfl (Below.refl _ _) hw rfl)
    · obtain ⟨o', e1, e2, e3, e4, e5⟩ := o8
      obtain rfl := Option.some.inj (ho.symm.trans e1)
      have dp := dep_of' e5 hdep
      have V7 : a.tmps.getD 21 undef = .pointer (some ⟨bx, 3, none⟩) := hI.val 7 21 (by decide) rfl (dp 7 (by decide))
      exact wpOp_value (v := .int .i64 ln) (w' := w) ho e4 (by simp [execOp, e3, ev, evc, V7, x8 w hw]) (by rw [e2]; exact go rfl (Below.refl _ _) hw rfl)
    · obtain ⟨o', e1, e2, e3, e4, e5⟩ := o9
      obtain rfl := Option.some.inj (ho.symm.trans e1)
      have dp := dep_of' e5 hdep
      have U1 : a.tmps.getD 1 undef = .pointer (some ⟨bx, 0, none⟩) := (kp 1 (by decide)).trans u1
      exact wpOp_value (v := .pointer (some ⟨bx, 4, none⟩)) (w' := w) ho e4 (by simp [execOp, e3, ev, evc, U1, x9 w]) (by rw [e2]; exact go rfl (Below.refl _ _) hw rfl)
    · obtain ⟨o', e1, e2, e3, e4, e5⟩ := o10
      obtain rfl := Option.some.inj (ho.symm.trans e1)
      have dp := dep_of' e5 hdep
      have V9 : a.tmps.getD 23 undef = .pointer (some ⟨bx, 4, none⟩) := hI.val 9 23 (by decide) rfl (dp 9 (by decide))
      exact wpOp_value (v := .int .i64 st) (w' := w) ho e4 (by simp [execOp, e3, ev, evc, V9, x10 w hw]) (by rw [e2]; exact go rfl (Below.refl _ _) hw rfl)
    · obtain ⟨o', e1, e2, e3, e4, e5⟩ := o11
      obtain rfl := Option.some.inj (ho.symm.trans e1)
      have dp := dep_of' e5 hdep
      obtain ⟨xa2, xc2, XA2, XC2, V2, f2⟩ : ∃ xa xc XA XC, a.tmps.getD 16 undef = .slice xa nn xc ∧ BmAt w xa nn XA XC LL := hI.val 2 16 (by decide) rfl (dp 2 (by decide))
      have V4 : a.tmps.getD 18 undef = .slice ra mm rc := hI.val 4 18 (by decide) rfl (dp 4 (by decide))
      have V6 : a.tmps.getD 20 undef = .int .i64 wd := hI.val 6 20 (by decide) rfl (dp 6 (by decide))
      have V8 : a.tmps.getD 22 undef = .int .i64 ln := hI.val 8 22 (by decide) rfl (dp 8 (by decide))
      have V10 : a.tmps.getD 24 undef = .int .i64 st := hI.val 10 24 (by decide) rfl (dp 10 (by decide))
      refine wpOp_call (f := 10) (args := #[.slice xa2 nn xc2, .slice ra mm rc, .int .i64 wd, .int .i64 ln, .int .i64 st]) ho e4 (by simp [execOp, e3, resolve, invoke, Deferred.ofValue, r10, ev, evf, evc, V2, V4, V6, V8, V10]) ((x11 w xa2 xc2 XA2 XC2 hw f2).mono ?_)
      rintro e W' ⟨⟨ya, yb, yc, yd, Ar, Cr, rfl, h1, h2, h3, h4⟩, hb6, hs6⟩
      refine ⟨_, rfl, ?_⟩
      rw [e2]
      exact go rfl hb6 hs6 ⟨ya, yb, yc, yd, Ar, Cr, rfl, h1, h2, h3, h4⟩
    · obtain ⟨o', e1, e2, e3, e4, e5⟩ := o12
      obtain rfl := Option.some.inj (ho.symm.trans e1)
      have dp := dep_of' e5 hdep
      obtain ⟨ya11, yb11, yc11, yd11, Ar11, Cr11, V11, f11, g11, h11, j11⟩ : ∃ ya yb yc yd Ar Cr, a.tmps.getD 25 undef = .tuple #[.slice ya qn yc, .slice yb qn yd, .int .i64 ec] ∧ qn ≤ yc ∧ qn ≤ yd ∧ BmC w ya qn Ar Cr LG ∧ Reads .i64 w yb qn GP := hI.val 11 25 (by decide) rfl (dp 11 (by decide))
      exact wpOp_value (v := .tuple #[.slice ya11 qn yc11, .slice yb11 qn yd11, .int .i64 ec]) (w' := w) ho e4 (by simp [execOp, e3, ev, evc, V11]) (by rw [e2]; exact go rfl (Below.refl _ _) hw ⟨ya11, yb11, yc11, yd11, Ar11, Cr11, rfl, f11, g11, h11, j11⟩)
    · obtain ⟨o', e1, e2, e3, e4, e5⟩ := o13
      obtain rfl := Option.some.inj (ho.symm.trans e1)
      have dp := dep_of' e5 hdep
      obtain ⟨ya12, yb12, yc12, yd12, Ar12, Cr12, V12, f12, g12, h12, j12⟩ : ∃ ya yb yc yd Ar Cr, a.tmps.getD 13 undef = .tuple #[.slice ya qn yc, .slice yb qn yd, .int .i64 ec] ∧ qn ≤ yc ∧ qn ≤ yd ∧ BmC w ya qn Ar Cr LG ∧ Reads .i64 w yb qn GP := hI.val 12 13 (by decide) rfl (dp 12 (by decide))
      exact wpOp_value (v := .slice ya12 qn yc12) (w' := w) ho e4 (by simp [execOp, e3, ev, evc, V12, Instr.extract]) (by rw [e2]; exact go rfl (Below.refl _ _) hw ⟨ya12, yc12, Ar12, Cr12, rfl, f12, h12⟩)
    · obtain ⟨o', e1, e2, e3, e4, e5⟩ := o14
      obtain rfl := Option.some.inj (ho.symm.trans e1)
      have dp := dep_of' e5 hdep
      obtain ⟨ya12, yb12, yc12, yd12, Ar12, Cr12, V12, f12, g12, h12, j12⟩ : ∃ ya yb yc yd Ar Cr, a.tmps.getD 13 undef = .tuple #[.slice ya qn yc, .slice yb qn yd, .int .i64 ec] ∧ qn ≤ yc ∧ qn ≤ yd ∧ BmC w ya qn Ar Cr LG ∧ Reads .i64 w yb qn GP := hI.val 12 13 (by decide) rfl (dp 12 (by decide))
      exact wpOp_value (v := .slice yb12 qn yd12) (w' := w) ho e4 (by simp [execOp, e3, ev, evc, V12, Instr.extract]) (by rw [e2]; exact go rfl (Below.refl _ _) hw ⟨yb12, yd12, rfl, g12, j12⟩)
    · obtain ⟨o', e1, e2, e3, e4, e5⟩ := o15
      obtain rfl := Option.some.inj (ho.symm.trans e1)
      have dp := dep_of' e5 hdep
      obtain ⟨ya12, yb12, yc12, yd12, Ar12, Cr12, V12, f12, g12, h12, j12⟩ : ∃ ya yb yc yd Ar Cr, a.tmps.getD 13 undef = .tuple #[.slice ya qn yc, .slice yb qn yd, .int .i64 ec] ∧ qn ≤ yc ∧ qn ≤ yd ∧ BmC w ya qn Ar Cr LG ∧ Reads .i64 w yb qn GP := hI.val 12 13 (by decide) rfl (dp 12 (by decide))
      exact wpOp_value (v := .int .i64 ec) (w' := w) ho e4 (by simp [execOp, e3, ev, evc, V12, Instr.extract]) (by rw [e2]; exact go rfl (Below.refl _ _) hw rfl)
    · obtain ⟨o', e1, e2, e3, e4, e5⟩ := o16
      obtain rfl := Option.some.inj (ho.symm.trans e1)
      have dp := dep_of' e5 hdep
      obtain ⟨ya13, yc13, Ar13, Cr13, V13, f13, g13⟩ : ∃ ya yc Ar Cr, a.tmps.getD 26 undef = .slice ya qn yc ∧ qn ≤ yc ∧ BmC w ya qn Ar Cr LG := hI.val 13 26 (by decide) rfl (dp 13 (by decide))
      exact wpOp_value (v := .slice ya13 qn yc13) (w' := w) ho e4 (by simp [execOp, e3, ev, evc, V13]) (by rw [e2]; exact go rfl (Below.refl _ _) hw ⟨ya13, yc13, Ar13, Cr13, rfl, f13, g13⟩)
    · obtain ⟨o', e1, e2, e3, e4, e5⟩ := o17
      obtain rfl := Option.some.inj (ho.symm.trans e1)
      have dp := dep_of' e5 hdep
      obtain ⟨yb14, yd14, V14, f14, g14⟩ : ∃ yb yd, a.tmps.getD 27 undef = .slice yb qn yd ∧ qn ≤ yd ∧ Reads .i64 w yb qn GP := hI.val 14 27 (by decide) rfl (dp 14 (by decide))
      exact wpOp_value (v := .slice yb14 qn yd14) (w' := w) ho e4 (by simp [execOp, e3, ev, evc, V14]) (by rw [e2]; exact go rfl (Below.refl _ _) hw ⟨yb14, yd14, rfl, f14, g14⟩)
    · obtain ⟨o', e1, e2, e3, e4, e5⟩ := o18
      obtain rfl := Option.some.inj (ho.symm.trans e1)
      have dp := dep_of' e5 hdep
      have V15 : a.tmps.getD 28 undef = .int .i64 ec := hI.val 15 28 (by decide) rfl (dp 15 (by decide))
      exact wpOp_value (v := .int .i64 ec) (w' := w) ho e4 (by simp [execOp, e3, ev, evc, V15]) (by rw [e2]; exact go rfl (Below.refl _ _) hw rfl)
  · intro l a w hall hI
    have all : ∀ j, j < 19 → l j = true := fun j hj => hall j (by rw [hsz]; exact hj)
    exact fin a w hI.size hI.defers hI.kept hI.world.1 (fun i d hi hD => hI.val i d hi hD (all i hi))

def waD (i : Nat) : Option Nat := match i with | 0 => some 24 | 1 => some 25 | 2 => some 26 | 3 => some 27 | 4 => some 28 | 5 => some 29 | 6 => some 30 | 7 => some 31 | 8 => some 32 | 9 => some 33 | 10 => some 34 | 11 => some 35 | 12 => some 23 | 13 => some 36 | 14 => some 37 | 15 => some 38 | 16 => some 3 | 17 => some 4 | 18 => some 5 | _ => none
theorem waD_inj : ∀ i, i < 19 → ∀ j, j < 19 → waD i = waD j → waD i ≠ none → i = j := by decide
theorem waD_lt : ∀ i, i < 19 → ∀ d, waD i = some d → d < 95 := by
  intro i hi d h
  have : ∀ i, i < 19 → (waD i).all (fun d => decide (d < 95)) = true := by decide
  have := this i hi
  rw [h] at this
  simpa using this
def waF (bx nn mm : Nat) (la ra : Option Addr) (lc rc : Nat) (wd ln st ec : Int) (qn : Nat) (LL LG : Nat → Bm) (GP : List Int) (i : Nat) (q : Value) (w : World) : Prop := match i with
  | 0 => q = .pointer (some ⟨bx, 0, none⟩)
  | 1 => q = .slice la nn lc
  | 2 => ∃ xa xc XA XC, q = .slice xa nn xc ∧ BmAt w xa nn XA XC LL
  | 3 => q = .pointer (some ⟨bx, 1, none⟩)
  | 4 => q = .slice ra mm rc
  | 5 => q = .pointer (some ⟨bx, 2, none⟩)
  | 6 => q = .int .i64 wd
  | 7 => q = .pointer (some ⟨bx, 3, none⟩)
  | 8 => q = .int .i64 ln
  | 9 => q = .pointer (some ⟨bx, 4, none⟩)
  | 10 => q = .int .i64 st
  | 11 => ∃ ya yb yc yd Ar Cr, q = .tuple #[.slice ya qn yc, .slice yb qn yd, .int .i64 ec] ∧ qn ≤ yc ∧ qn ≤ yd ∧ BmC w ya qn Ar Cr LG ∧ Reads .i64 w yb qn GP
  | 12 => ∃ ya yb yc yd Ar Cr, q = .tuple #[.slice ya qn yc, .slice yb qn yd, .int .i64 ec] ∧ qn ≤ yc ∧ qn ≤ yd ∧ BmC w ya qn Ar Cr LG ∧ Reads .i64 w yb qn GP
  | 13 => ∃ ya yc Ar Cr, q = .slice ya qn yc ∧ qn ≤ yc ∧ BmC w ya qn Ar Cr LG
  | 14 => ∃ yb yd, q = .slice yb qn yd ∧ qn ≤ yd ∧ Reads .i64 w yb qn GP
  | 15 => q = .int .i64 ec
  | 16 => ∃ ya yc Ar Cr, q = .slice ya qn yc ∧ qn ≤ yc ∧ BmC w ya qn Ar Cr LG
  | 17 => ∃ yb yd, q = .slice yb qn yd ∧ qn ≤ yd ∧ Reads .i64 w yb qn GP
  | 18 => q = .int .i64 ec
  | _ => True
theorem waF_below {bx nn mm : Nat} {la ra : Option Addr} {lc rc : Nat} {wd ln st ec : Int} {qn : Nat} {LL LG : Nat → Bm} {GP : List Int} {i : Nat} {q : Value} {w w' : World} (h : waF bx nn mm la ra lc rc wd ln st ec qn LL LG GP i q w) (hb : Below w.heap.size w w') : waF bx nn mm la ra lc rc wd ln st ec qn LL LG GP i q w' := by
  unfold waF at h ⊢
  split
  · exact h
  · exact h
  · obtain ⟨xa, xc, XA, XC, h1, h2⟩ := h; exact ⟨xa, xc, XA, XC, h1, h2.below hb⟩
  · exact h
  · exact h
  · exact h
  · exact h
  · exact h
  · exact h
  · exact h
  · exact h
  · obtain ⟨ya, yb, yc, yd, Ar, Cr, h1, h2, h3, h4, h5⟩ := h; exact ⟨ya, yb, yc, yd, Ar, Cr, h1, h2, h3, h4.below hb, h5.below hb⟩
  · obtain ⟨ya, yb, yc, yd, Ar, Cr, h1, h2, h3, h4, h5⟩ := h; exact ⟨ya, yb, yc, yd, Ar, Cr, h1, h2, h3, h4.below hb, h5.below hb⟩
  · obtain ⟨ya, yc, Ar, Cr, h1, h2, h3⟩ := h; exact ⟨ya, yc, Ar, Cr, h1, h2, h3.below hb⟩
  · obtain ⟨yb, yd, h1, h2, h3⟩ := h; exact ⟨yb, yd, h1, h2, h3.below hb⟩
  · exact h
  · obtain ⟨ya, yc, Ar, Cr, h1, h2, h3⟩ := h; exact ⟨ya, yc, Ar, Cr, h1, h2, h3.below hb⟩
  · obtain ⟨yb, yd, h1, h2, h3⟩ := h; exact ⟨yb, yd, h1, h2, h3.below hb⟩
  · exact h
  · trivial

set_option maxHeartbeats 8000000 in
theorem wa_region {id : Nat} {ops : Array Oper} {Q : Exit → Act → World → Prop} {a0 : Act} {w0 : World} (bx nn mm : Nat) (la ra : Option Addr) (lc rc : Nat) (wd ln st ec : Int) (qn : Nat) (LL LG : Nat → Bm) (GP : List Int) (S : World → Prop) (hlow : lowB ops = true) (hsz : ops.size = 19)
    (o0 : OpIn ops 0 (some 24) (.fieldAddr 25 (.tmp 1) 0) none []) (o1 : OpIn ops 1 (some 25) (.load 22 (.tmp 24)) none [0]) (o2 : OpIn ops 2 (some 26) (.call { callee := .value (.func 9), args := #[.tmp 25], argTypes := #[22] }) none [1]) (o3 : OpIn ops 3 (some 27) (.fieldAddr 25 (.tmp 1) 1) none []) (o4 : OpIn ops 4 (some 28) (.load 23 (.tmp 27)) none [3]) (o5 : OpIn ops 5 (some 29) (.fieldAddr 25 (.tmp 1) 2) none []) (o6 : OpIn ops 6 (some 30) (.load 3 (.tmp 29)) none [5]) (o7 : OpIn ops 7 (some 31) (.fieldAddr 25 (.tmp 1) 3) none []) (o8 : OpIn ops 8 (some 32) (.load 3 (.tmp 31)) none [7]) (o9 : OpIn ops 9 (some 33) (.fieldAddr 25 (.tmp 1) 4) none []) (o10 : OpIn ops 10 (some 34) (.load 3 (.tmp 33)) none [9]) (o11 : OpIn ops 11 (some 35) (.call { callee := .value (.func 10), args := #[.tmp 26, .tmp 28, .tmp 30, .tmp 32, .tmp 34], argTypes := #[27, 23, 3, 3, 3] }) none [2, 4, 6, 8, 10]) (o12 : OpIn ops 12 (some 23) (.move (.tmp 35)) none [11]) (o13 : OpIn ops 13 (some 36) (.extract (.tmp 23) 0) none [12]) (o14 : OpIn ops 14 (some 37) (.extract (.tmp 23) 1) none [12]) (o15 : OpIn ops 15 (some 38) (.extract (.tmp 23) 2) none [12]) (o16 : OpIn ops 16 (some 3) (.assign (.tmp 36)) none [13]) (o17 : OpIn ops 17 (some 4) (.assign (.tmp 37)) none [14]) (o18 : OpIn ops 18 (some 5) (.assign (.tmp 38)) none [15])
    (hS : S w0.drew)
    (x0 : ∀ w, (Instr.fieldAt 25 (.pointer (some ⟨bx, 0, none⟩)) 0).run Try.prog w = .ok (.pointer (some ⟨bx, 0, none⟩)) w)
    (x1 : ∀ w, S w → (Instr.loadAt 22 (.pointer (some ⟨bx, 0, none⟩))).run Try.prog w = .ok (.slice la nn lc) w)
    (x2 : ∀ w, S w → Calls Try.prog 9 #[.slice la nn lc] w fun e w' => (∃ xa xc XA XC, e = .returned (.slice xa nn xc) ∧ BmAt w' xa nn XA XC LL) ∧ Below w.heap.size w w' ∧ S w')
    (x3 : ∀ w, (Instr.fieldAt 25 (.pointer (some ⟨bx, 0, none⟩)) 1).run Try.prog w = .ok (.pointer (some ⟨bx, 1, none⟩)) w)
    (x4 : ∀ w, S w → (Instr.loadAt 23 (.pointer (some ⟨bx, 1, none⟩))).run Try.prog w = .ok (.slice ra mm rc) w)
    (x5 : ∀ w, (Instr.fieldAt 25 (.pointer (some ⟨bx, 0, none⟩)) 2).run Try.prog w = .ok (.pointer (some ⟨bx, 2, none⟩)) w)
    (x6 : ∀ w, S w → (Instr.loadAt 3 (.pointer (some ⟨bx, 2, none⟩))).run Try.prog w = .ok (.int .i64 wd) w)
    (x7 : ∀ w, (Instr.fieldAt 25 (.pointer (some ⟨bx, 0, none⟩)) 3).run Try.prog w = .ok (.pointer (some ⟨bx, 3, none⟩)) w)
    (x8 : ∀ w, S w → (Instr.loadAt 3 (.pointer (some ⟨bx, 3, none⟩))).run Try.prog w = .ok (.int .i64 ln) w)
    (x9 : ∀ w, (Instr.fieldAt 25 (.pointer (some ⟨bx, 0, none⟩)) 4).run Try.prog w = .ok (.pointer (some ⟨bx, 4, none⟩)) w)
    (x10 : ∀ w, S w → (Instr.loadAt 3 (.pointer (some ⟨bx, 4, none⟩))).run Try.prog w = .ok (.int .i64 st) w)
    (x11 : ∀ w xa xc XA XC, S w → BmAt w xa nn XA XC LL → Calls Try.prog 10 #[.slice xa nn xc, .slice ra mm rc, .int .i64 wd, .int .i64 ln, .int .i64 st] w fun e w' => (∃ ya yb yc yd Ar Cr, e = .returned (.tuple #[.slice ya qn yc, .slice yb qn yd, .int .i64 ec]) ∧ qn ≤ yc ∧ qn ≤ yd ∧ BmC w' ya qn Ar Cr LG ∧ Reads .i64 w' yb qn GP) ∧ Below w.heap.size w w' ∧ S w')
    (u1 : a0.tmps.getD 1 undef = .pointer (some ⟨bx, 0, none⟩))
    (hs : 95 ≤ a0.tmps.size)
    (fin : ∀ a w, a.tmps.size = a0.tmps.size → a.defers = a0.defers → (∀ s, (∀ i, i < 19 → waD i ≠ some s) → a.tmps.getD s undef = a0.tmps.getD s undef) → S w → (∀ i d, i < 19 → waD i = some d → waF bx nn mm la ra lc rc wd ln st ec qn LL LG GP i (a.tmps.getD d undef) w) → Q .normal a w) : (Code.region id ops true).wp Try.prog Q a0 w0 := by
  have r9 : ∀ args w, (callFunc 9 args).run Try.prog w = .ok (.enter 9 args) w := enters_of Try.func9 (by kernel_rfl) rfl
  have r10 : ∀ args w, (callFunc 10 args).run Try.prog w = .ok (.enter 10 args) w := enters_of Try.func10 (by kernel_rfl) rfl
  refine wp_region_inv2 (by kernel_rfl) hlow (Inv 19 waD a0 (fun l a w => S w ∧ Kept2 19 waD a0 l a) (fun _ => waF bx nn mm la ra lc rc wd ln st ec qn LL LG GP)) (Inv.start ⟨hS, kept2_start _ _ _⟩) ?_ ?_
  · intro l i o a w ho hl hcl hdep hI
    have hi : i < 19 := by rw [← hsz]; exact (Array.getElem?_eq_some_iff.1 ho).1
    have ev : ∀ (s : Nat), a.eval (.tmp s) = a.tmps.getD s undef := fun _ => rfl
    have evf : ∀ f, a.eval (.func f) = .func (.func f) #[] #[] := fun _ => rfl
    have evc : ∀ c : Value, a.eval (.const c) = c := fun _ => rfl
    have inj : ∀ d, waD i = some d → ∀ j d', j < 19 → waD j = some d' → j ≠ i → d' ≠ d := fun d hd j d' hj hd' hne e => hne (waD_inj j hj i hi (by rw [hd', hd, e]) (by rw [hd']; simp))
    have kp : ∀ s, (∀ i, i < 19 → waD i ≠ some s) → a.tmps.getD s undef = a0.tmps.getD s undef := hI.kept
    have hw : S w := hI.world.1
    have k2 := hI.world.2
    have ex0 := hI.world.2
    have go : ∀ {d : Nat} {v : Value} {w' : World}, waD i = some d → Below w.heap.size w w' → S w' → waF bx nn mm la ra lc rc wd ln st ec qn LL LG GP i v w' → Inv 19 waD a0 (fun l a w => S w ∧ Kept2 19 waD a0 l a) (fun _ => waF bx nn mm la ra lc rc wd ln st ec qn LL LG GP) (fun j => l j || j == i) (a.put (some d) v) w' := by
      intro d v w' hD hb hS' hF
      exact hI.put hi hD (Nat.lt_of_lt_of_le (waD_lt i hi d hD) hs) (inj d hD) ⟨hS', k2.put hD (by rw [hI.size]; exact Nat.lt_of_lt_of_le (waD_lt i hi d hD) hs) hi⟩ hF (fun j u _ _ _ hf => waF_below hf hb)
    rcases (show i = 0 ∨ i = 1 ∨ i = 2 ∨ i = 3 ∨ i = 4 ∨ i = 5 ∨ i = 6 ∨ i = 7 ∨ i = 8 ∨ i = 9 ∨ i = 10 ∨ i = 11 ∨ i = 12 ∨ i = 13 ∨ i = 14 ∨ i = 15 ∨ i = 16 ∨ i = 17 ∨ i = 18 by omega) with rfl | rfl | rfl | rfl | rfl | rfl | rfl | rfl | rfl | rfl | rfl | rfl | rfl | rfl | rfl | rfl | rfl | rfl | rfl
    · obtain ⟨o', e1, e2, e3, e4, e5⟩ := o0
      obtain rfl := Option.some.inj (ho.symm.trans e1)
      have dp := dep_of' e5 hdep
      have U1 : a.tmps.getD 1 undef = .pointer (some ⟨bx, 0, none⟩) := (kp 1 (by decide)).trans u1
      exact wpOp_value (v := .pointer (some ⟨bx, 0, none⟩)) (w' := w) ho e4 (by simp [execOp, e3, ev, evc, U1, x0 w]) (by rw [e2]; exact go rfl (Below.refl _ _) hw rfl)
    · obtain ⟨o', e1, e2, e3, e4, e5⟩ := o1
      obtain rfl := Option.some.inj (ho.symm.trans e1)
      have dp := dep_of' e5 hdep
      have V0 : a.tmps.getD 24 undef = .pointer (some ⟨bx, 0, none⟩) := hI.val 0 24 (by decide) rfl (dp 0 (by decide))
      exact wpOp_value (v := .slice la nn lc) (w' := w) ho e4 (by simp [execOp, e3, ev, evc, V0, x1 w hw]) (by rw [e2]; exact go rfl (Below.refl _ _) hw rfl)
    · obtain ⟨o', e1, e2, e3, e4, e5⟩ := o2
      obtain rfl := Option.some.inj (ho.symm.trans e1)
      have dp := dep_of' e5 hdep
      have V1 : a.tmps.getD 25 undef = .slice la nn lc := hI.val 1 25 (by decide) rfl (dp 1 (by decide))
      refine wpOp_call (f := 9) (args := #[.slice la nn lc]) ho e4 (by simp [execOp, e3, resolve, invoke, Deferred.ofValue, r9, ev, evf, evc, V1]) ((x2 w hw).mono ?_)
      rintro e W' ⟨⟨xa, xc, XA, XC, rfl, h1⟩, hb6, hs6⟩
      refine ⟨_, rfl, ?_⟩
      rw [e2]
      exact go rfl hb6 hs6 ⟨xa, xc, XA, XC, rfl, h1⟩
    · obtain ⟨o', e1, e2, e3, e4, e5⟩ := o3
      obtain rfl := Option.some.inj (ho.symm.trans e1)
      have dp := dep_of' e5 hdep
      have U1 : a.tmps.getD 1 undef = .pointer (some ⟨bx, 0, none⟩) := (kp 1 (by decide)).trans u1
      exact wpOp_value (v := .pointer (some ⟨bx, 1, none⟩)) (w' := w) ho e4 (by simp [execOp, e3, ev, evc, U1, x3 w]) (by rw [e2]; exact go rfl (Below.refl _ _) hw rfl)
    · obtain ⟨o', e1, e2, e3, e4, e5⟩ := o4
      obtain rfl := Option.some.inj (ho.symm.trans e1)
      have dp := dep_of' e5 hdep
      have V3 : a.tmps.getD 27 undef = .pointer (some ⟨bx, 1, none⟩) := hI.val 3 27 (by decide) rfl (dp 3 (by decide))
      exact wpOp_value (v := .slice ra mm rc) (w' := w) ho e4 (by simp [execOp, e3, ev, evc, V3, x4 w hw]) (by rw [e2]; exact go rfl (Below.refl _ _) hw rfl)
    · obtain ⟨o', e1, e2, e3, e4, e5⟩ := o5
      obtain rfl := Option.some.inj (ho.symm.trans e1)
      have dp := dep_of' e5 hdep
      have U1 : a.tmps.getD 1 undef = .pointer (some ⟨bx, 0, none⟩) := (kp 1 (by decide)).trans u1
      exact wpOp_value (v := .pointer (some ⟨bx, 2, none⟩)) (w' := w) ho e4 (by simp [execOp, e3, ev, evc, U1, x5 w]) (by rw [e2]; exact go rfl (Below.refl _ _) hw rfl)
    · obtain ⟨o', e1, e2, e3, e4, e5⟩ := o6
      obtain rfl := Option.some.inj (ho.symm.trans e1)
      have dp := dep_of' e5 hdep
      have V5 : a.tmps.getD 29 undef = .pointer (some ⟨bx, 2, none⟩) := hI.val 5 29 (by decide) rfl (dp 5 (by decide))
      exact wpOp_value (v := .int .i64 wd) (w' := w) ho e4 (by simp [execOp, e3, ev, evc, V5, x6 w hw]) (by rw [e2]; exact go rfl (Below.refl _ _) hw rfl)
    · obtain ⟨o', e1, e2, e3, e4, e5⟩ := o7
      obtain rfl := Option.some.inj (ho.symm.trans e1)
      have dp := dep_of' e5 hdep
      have U1 : a.tmps.getD 1 undef = .pointer (some ⟨bx, 0, none⟩) := (kp 1 (by decide)).trans u1
      exact wpOp_value (v := .pointer (some ⟨bx, 3, none⟩)) (w' := w) ho e4 (by simp [execOp, e3, ev, evc, U1, x7 w]) (by rw [e2]; exact go rfl (Below.refl _ _) hw rfl)
    · obtain ⟨o', e1, e2, e3, e4, e5⟩ := o8
      obtain rfl := Option.some.inj (ho.symm.trans e1)
      have dp := dep_of' e5 hdep
      have V7 : a.tmps.getD 31 undef = .pointer (some ⟨bx, 3, none⟩) := hI.val 7 31 (by decide) rfl (dp 7 (by decide))
      exact wpOp_value (v := .int .i64 ln) (w' := w) ho e4 (by simp [execOp, e3, ev, evc, V7, x8 w hw]) (by rw [e2]; exact go rfl (Below.refl _ _) hw rfl)
    · obtain ⟨o', e1, e2, e3, e4, e5⟩ := o9
      obtain rfl := Option.some.inj (ho.symm.trans e1)
      have dp := dep_of' e5 hdep
      have U1 : a.tmps.getD 1 undef = .pointer (some ⟨bx, 0, none⟩) := (kp 1 (by decide)).trans u1
      exact wpOp_value (v := .pointer (some ⟨bx, 4, none⟩)) (w' := w) ho e4 (by simp [execOp, e3, ev, evc, U1, x9 w]) (by rw [e2]; exact go rfl (Below.refl _ _) hw rfl)
    · obtain ⟨o', e1, e2, e3, e4, e5⟩ := o10
      obtain rfl := Option.some.inj (ho.symm.trans e1)
      have dp := dep_of' e5 hdep
      have V9 : a.tmps.getD 33 undef = .pointer (some ⟨bx, 4, none⟩) := hI.val 9 33 (by decide) rfl (dp 9 (by decide))
      exact wpOp_value (v := .int .i64 st) (w' := w) ho e4 (by simp [execOp, e3, ev, evc, V9, x10 w hw]) (by rw [e2]; exact go rfl (Below.refl _ _) hw rfl)
    · obtain ⟨o', e1, e2, e3, e4, e5⟩ := o11
      obtain rfl := Option.some.inj (ho.symm.trans e1)
      have dp := dep_of' e5 hdep
      obtain ⟨xa2, xc2, XA2, XC2, V2, f2⟩ : ∃ xa xc XA XC, a.tmps.getD 26 undef = .slice xa nn xc ∧ BmAt w xa nn XA XC LL := hI.val 2 26 (by decide) rfl (dp 2 (by decide))
      have V4 : a.tmps.getD 28 undef = .slice ra mm rc := hI.val 4 28 (by decide) rfl (dp 4 (by decide))
      have V6 : a.tmps.getD 30 undef = .int .i64 wd := hI.val 6 30 (by decide) rfl (dp 6 (by decide))
      have V8 : a.tmps.getD 32 undef = .int .i64 ln := hI.val 8 32 (by decide) rfl (dp 8 (by decide))
      have V10 : a.tmps.getD 34 undef = .int .i64 st := hI.val 10 34 (by decide) rfl (dp 10 (by decide))
      refine wpOp_call (f := 10) (args := #[.slice xa2 nn xc2, .slice ra mm rc, .int .i64 wd, .int .i64 ln, .int .i64 st]) ho e4 (by simp [execOp, e3, resolve, invoke, Deferred.ofValue, r10, ev, evf, evc, V2, V4, V6, V8, V10]) ((x11 w xa2 xc2 XA2 XC2 hw f2).mono ?_)
      rintro e W' ⟨⟨ya, yb, yc, yd, Ar, Cr, rfl, h1, h2, h3, h4⟩, hb6, hs6⟩
      refine ⟨_, rfl, ?_⟩
      rw [e2]
      exact go rfl hb6 hs6 ⟨ya, yb, yc, yd, Ar, Cr, rfl, h1, h2, h3, h4⟩
    · obtain ⟨o', e1, e2, e3, e4, e5⟩ := o12
      obtain rfl := Option.some.inj (ho.symm.trans e1)
      have dp := dep_of' e5 hdep
      obtain ⟨ya11, yb11, yc11, yd11, Ar11, Cr11, V11, f11, g11, h11, j11⟩ : ∃ ya yb yc yd Ar Cr, a.tmps.getD 35 undef = .tuple #[.slice ya qn yc, .slice yb qn yd, .int .i64 ec] ∧ qn ≤ yc ∧ qn ≤ yd ∧ BmC w ya qn Ar Cr LG ∧ Reads .i64 w yb qn GP := hI.val 11 35 (by decide) rfl (dp 11 (by decide))
      exact wpOp_value (v := .tuple #[.slice ya11 qn yc11, .slice yb11 qn yd11, .int .i64 ec]) (w' := w) ho e4 (by simp [execOp, e3, ev, evc, V11]) (by rw [e2]; exact go rfl (Below.refl _ _) hw ⟨ya11, yb11, yc11, yd11, Ar11, Cr11, rfl, f11, g11, h11, j11⟩)
    · obtain ⟨o', e1, e2, e3, e4, e5⟩ := o13
      obtain rfl := Option.some.inj (ho.symm.trans e1)
      have dp := dep_of' e5 hdep
      obtain ⟨ya12, yb12, yc12, yd12, Ar12, Cr12, V12, f12, g12, h12, j12⟩ : ∃ ya yb yc yd Ar Cr, a.tmps.getD 23 undef = .tuple #[.slice ya qn yc, .slice yb qn yd, .int .i64 ec] ∧ qn ≤ yc ∧ qn ≤ yd ∧ BmC w ya qn Ar Cr LG ∧ Reads .i64 w yb qn GP := hI.val 12 23 (by decide) rfl (dp 12 (by decide))
      exact wpOp_value (v := .slice ya12 qn yc12) (w' := w) ho e4 (by simp [execOp, e3, ev, evc, V12, Instr.extract]) (by rw [e2]; exact go rfl (Below.refl _ _) hw ⟨ya12, yc12, Ar12, Cr12, rfl, f12, h12⟩)
    · obtain ⟨o', e1, e2, e3, e4, e5⟩ := o14
      obtain rfl := Option.some.inj (ho.symm.trans e1)
      have dp := dep_of' e5 hdep
      obtain ⟨ya12, yb12, yc12, yd12, Ar12, Cr12, V12, f12, g12, h12, j12⟩ : ∃ ya yb yc yd Ar Cr, a.tmps.getD 23 undef = .tuple #[.slice ya qn yc, .slice yb qn yd, .int .i64 ec] ∧ qn ≤ yc ∧ qn ≤ yd ∧ BmC w ya qn Ar Cr LG ∧ Reads .i64 w yb qn GP := hI.val 12 23 (by decide) rfl (dp 12 (by decide))
      exact wpOp_value (v := .slice yb12 qn yd12) (w' := w) ho e4 (by simp [execOp, e3, ev, evc, V12, Instr.extract]) (by rw [e2]; exact go rfl (Below.refl _ _) hw ⟨yb12, yd12, rfl, g12, j12⟩)
    · obtain ⟨o', e1, e2, e3, e4, e5⟩ := o15
      obtain rfl := Option.some.inj (ho.symm.trans e1)
      have dp := dep_of' e5 hdep
      obtain ⟨ya12, yb12, yc12, yd12, Ar12, Cr12, V12, f12, g12, h12, j12⟩ : ∃ ya yb yc yd Ar Cr, a.tmps.getD 23 undef = .tuple #[.slice ya qn yc, .slice yb qn yd, .int .i64 ec] ∧ qn ≤ yc ∧ qn ≤ yd ∧ BmC w ya qn Ar Cr LG ∧ Reads .i64 w yb qn GP := hI.val 12 23 (by decide) rfl (dp 12 (by decide))
      exact wpOp_value (v := .int .i64 ec) (w' := w) ho e4 (by simp [execOp, e3, ev, evc, V12, Instr.extract]) (by rw [e2]; exact go rfl (Below.refl _ _) hw rfl)
    · obtain ⟨o', e1, e2, e3, e4, e5⟩ := o16
      obtain rfl := Option.some.inj (ho.symm.trans e1)
      have dp := dep_of' e5 hdep
      obtain ⟨ya13, yc13, Ar13, Cr13, V13, f13, g13⟩ : ∃ ya yc Ar Cr, a.tmps.getD 36 undef = .slice ya qn yc ∧ qn ≤ yc ∧ BmC w ya qn Ar Cr LG := hI.val 13 36 (by decide) rfl (dp 13 (by decide))
      exact wpOp_value (v := .slice ya13 qn yc13) (w' := w) ho e4 (by simp [execOp, e3, ev, evc, V13]) (by rw [e2]; exact go rfl (Below.refl _ _) hw ⟨ya13, yc13, Ar13, Cr13, rfl, f13, g13⟩)
    · obtain ⟨o', e1, e2, e3, e4, e5⟩ := o17
      obtain rfl := Option.some.inj (ho.symm.trans e1)
      have dp := dep_of' e5 hdep
      obtain ⟨yb14, yd14, V14, f14, g14⟩ : ∃ yb yd, a.tmps.getD 37 undef = .slice yb qn yd ∧ qn ≤ yd ∧ Reads .i64 w yb qn GP := hI.val 14 37 (by decide) rfl (dp 14 (by decide))
      exact wpOp_value (v := .slice yb14 qn yd14) (w' := w) ho e4 (by simp [execOp, e3, ev, evc, V14]) (by rw [e2]; exact go rfl (Below.refl _ _) hw ⟨yb14, yd14, rfl, f14, g14⟩)
    · obtain ⟨o', e1, e2, e3, e4, e5⟩ := o18
      obtain rfl := Option.some.inj (ho.symm.trans e1)
      have dp := dep_of' e5 hdep
      have V15 : a.tmps.getD 38 undef = .int .i64 ec := hI.val 15 38 (by decide) rfl (dp 15 (by decide))
      exact wpOp_value (v := .int .i64 ec) (w' := w) ho e4 (by simp [execOp, e3, ev, evc, V15]) (by rw [e2]; exact go rfl (Below.refl _ _) hw rfl)
  · intro l a w hall hI
    have all : ∀ j, j < 19 → l j = true := fun j hj => hall j (by rw [hsz]; exact hj)
    exact fin a w hI.size hI.defers hI.kept hI.world.1 (fun i d hi hD => hI.val i d hi hD (all i hi))

def wbD (i : Nat) : Option Nat := match i with | 0 => some 40 | 1 => some 41 | 2 => some 42 | 3 => some 43 | 4 => some 44 | 5 => some 45 | 6 => some 46 | 7 => some 47 | 8 => some 48 | 9 => some 49 | 10 => some 50 | 11 => some 51 | 12 => some 52 | 13 => some 39 | 14 => some 53 | 15 => some 54 | 16 => some 55 | 17 => some 6 | 18 => some 7 | 19 => some 8 | _ => none
theorem wbD_inj : ∀ i, i < 20 → ∀ j, j < 20 → wbD i = wbD j → wbD i ≠ none → i = j := by decide
theorem wbD_lt : ∀ i, i < 20 → ∀ d, wbD i = some d → d < 95 := by
  intro i hi d h
  have : ∀ i, i < 20 → (wbD i).all (fun d => decide (d < 95)) = true := by decide
  have := this i hi
  rw [h] at this
  simpa using this
def wbF (bx nn mm : Nat) (la ra : Option Addr) (lc rc : Nat) (wd ln st ec : Int) (qn : Nat) (LL LG : Nat → Bm) (GP : List Int) (i : Nat) (q : Value) (w : World) : Prop := match i with
  | 0 => q = .pointer (some ⟨bx, 0, none⟩)
  | 1 => q = .slice la nn lc
  | 2 => ∃ xa xc XA XC, q = .slice xa nn xc ∧ BmAt w xa nn XA XC LL
  | 3 => q = .pointer (some ⟨bx, 1, none⟩)
  | 4 => q = .slice ra mm rc
  | 5 => q = .pointer (some ⟨bx, 2, none⟩)
  | 6 => q = .int .i64 wd
  | 7 => q = .int .i64 (wd + 1)
  | 8 => q = .pointer (some ⟨bx, 3, none⟩)
  | 9 => q = .int .i64 ln
  | 10 => q = .pointer (some ⟨bx, 4, none⟩)
  | 11 => q = .int .i64 st
  | 12 => ∃ ya yb yc yd Ar Cr, q = .tuple #[.slice ya qn yc, .slice yb qn yd, .int .i64 ec] ∧ qn ≤ yc ∧ qn ≤ yd ∧ BmC w ya qn Ar Cr LG ∧ Reads .i64 w yb qn GP
  | 13 => ∃ ya yb yc yd Ar Cr, q = .tuple #[.slice ya qn yc, .slice yb qn yd, .int .i64 ec] ∧ qn ≤ yc ∧ qn ≤ yd ∧ BmC w ya qn Ar Cr LG ∧ Reads .i64 w yb qn GP
  | 14 => ∃ ya yc Ar Cr, q = .slice ya qn yc ∧ qn ≤ yc ∧ BmC w ya qn Ar Cr LG
  | 15 => ∃ yb yd, q = .slice yb qn yd ∧ qn ≤ yd ∧ Reads .i64 w yb qn GP
  | 16 => q = .int .i64 ec
  | 17 => ∃ ya yc Ar Cr, q = .slice ya qn yc ∧ qn ≤ yc ∧ BmC w ya qn Ar Cr LG
  | 18 => ∃ yb yd, q = .slice yb qn yd ∧ qn ≤ yd ∧ Reads .i64 w yb qn GP
  | 19 => q = .int .i64 ec
  | _ => True
theorem wbF_below {bx nn mm : Nat} {la ra : Option Addr} {lc rc : Nat} {wd ln st ec : Int} {qn : Nat} {LL LG : Nat → Bm} {GP : List Int} {i : Nat} {q : Value} {w w' : World} (h : wbF bx nn mm la ra lc rc wd ln st ec qn LL LG GP i q w) (hb : Below w.heap.size w w') : wbF bx nn mm la ra lc rc wd ln st ec qn LL LG GP i q w' := by
  unfold wbF at h ⊢
  split
  · exact h
  · exact h
  · obtain ⟨xa, xc, XA, XC, h1, h2⟩ := h; exact ⟨xa, xc, XA, XC, h1, h2.below hb⟩
  · exact h
  · exact h
  · exact h
  · exact h
  · exact h
  · exact h
  · exact h
  · exact h
  · exact h
  · obtain ⟨ya, yb, yc, yd, Ar, Cr, h1, h2, h3, h4, h5⟩ := h; exact ⟨ya, yb, yc, yd, Ar, Cr, h1, h2, h3, h4.below hb, h5.below hb⟩
  · obtain ⟨ya, yb, yc, yd, Ar, Cr, h1, h2, h3, h4, h5⟩ := h; exact ⟨ya, yb, yc, yd, Ar, Cr, h1, h2, h3, h4.below hb, h5.below hb⟩
  · obtain ⟨ya, yc, Ar, Cr, h1, h2, h3⟩ := h; exact ⟨ya, yc, Ar, Cr, h1, h2, h3.below hb⟩
  · obtain ⟨yb, yd, h1, h2, h3⟩ := h; exact ⟨yb, yd, h1, h2, h3.below hb⟩
  · exact h
  · obtain ⟨ya, yc, Ar, Cr, h1, h2, h3⟩ := h; exact ⟨ya, yc, Ar, Cr, h1, h2, h3.below hb⟩
  · obtain ⟨yb, yd, h1, h2, h3⟩ := h; exact ⟨yb, yd, h1, h2, h3.below hb⟩
  · exact h
  · trivial

set_option maxHeartbeats 8000000 in
theorem wb_region {id : Nat} {ops : Array Oper} {Q : Exit → Act → World → Prop} {a0 : Act} {w0 : World} (bx nn mm : Nat) (la ra : Option Addr) (lc rc : Nat) (wd ln st ec : Int) (qn : Nat) (LL LG : Nat → Bm) (GP : List Int) (S : World → Prop) (hlow : lowB ops = true) (hsz : ops.size = 20)
    (o0 : OpIn ops 0 (some 40) (.fieldAddr 25 (.tmp 1) 0) none []) (o1 : OpIn ops 1 (some 41) (.load 22 (.tmp 40)) none [0]) (o2 : OpIn ops 2 (some 42) (.call { callee := .value (.func 9), args := #[.tmp 41], argTypes := #[22] }) none [1]) (o3 : OpIn ops 3 (some 43) (.fieldAddr 25 (.tmp 1) 1) none []) (o4 : OpIn ops 4 (some 44) (.load 23 (.tmp 43)) none [3]) (o5 : OpIn ops 5 (some 45) (.fieldAddr 25 (.tmp 1) 2) none []) (o6 : OpIn ops 6 (some 46) (.load 3 (.tmp 45)) none [5]) (o7 : OpIn ops 7 (some 47) (.binOp .add 3 (.tmp 46) (.const (.int .i64 1)) 3) none [6]) (o8 : OpIn ops 8 (some 48) (.fieldAddr 25 (.tmp 1) 3) none []) (o9 : OpIn ops 9 (some 49) (.load 3 (.tmp 48)) none [8]) (o10 : OpIn ops 10 (some 50) (.fieldAddr 25 (.tmp 1) 4) none []) (o11 : OpIn ops 11 (some 51) (.load 3 (.tmp 50)) none [10]) (o12 : OpIn ops 12 (some 52) (.call { callee := .value (.func 10), args := #[.tmp 42, .tmp 44, .tmp 47, .tmp 49, .tmp 51], argTypes := #[27, 23, 3, 3, 3] }) none [2, 4, 7, 9, 11]) (o13 : OpIn ops 13 (some 39) (.move (.tmp 52)) none [12]) (o14 : OpIn ops 14 (some 53) (.extract (.tmp 39) 0) none [13]) (o15 : OpIn ops 15 (some 54) (.extract (.tmp 39) 1) none [13]) (o16 : OpIn ops 16 (some 55) (.extract (.tmp 39) 2) none [13]) (o17 : OpIn ops 17 (some 6) (.assign (.tmp 53)) none [14]) (o18 : OpIn ops 18 (some 7) (.assign (.tmp 54)) none [15]) (o19 : OpIn ops 19 (some 8) (.assign (.tmp 55)) none [16])
    (hS : S w0.drew)
    (x0 : ∀ w, (Instr.fieldAt 25 (.pointer (some ⟨bx, 0, none⟩)) 0).run Try.prog w = .ok (.pointer (some ⟨bx, 0, none⟩)) w)
    (x1 : ∀ w, S w → (Instr.loadAt 22 (.pointer (some ⟨bx, 0, none⟩))).run Try.prog w = .ok (.slice la nn lc) w)
    (x2 : ∀ w, S w → Calls Try.prog 9 #[.slice la nn lc] w fun e w' => (∃ xa xc XA XC, e = .returned (.slice xa nn xc) ∧ BmAt w' xa nn XA XC LL) ∧ Below w.heap.size w w' ∧ S w')
    (x3 : ∀ w, (Instr.fieldAt 25 (.pointer (some ⟨bx, 0, none⟩)) 1).run Try.prog w = .ok (.pointer (some ⟨bx, 1, none⟩)) w)
    (x4 : ∀ w, S w → (Instr.loadAt 23 (.pointer (some ⟨bx, 1, none⟩))).run Try.prog w = .ok (.slice ra mm rc) w)
    (x5 : ∀ w, (Instr.fieldAt 25 (.pointer (some ⟨bx, 0, none⟩)) 2).run Try.prog w = .ok (.pointer (some ⟨bx, 2, none⟩)) w)
    (x6 : ∀ w, S w → (Instr.loadAt 3 (.pointer (some ⟨bx, 2, none⟩))).run Try.prog w = .ok (.int .i64 wd) w)
    (x7 : ∀ w, (binOp .add 3 (.int .i64 wd) (.int .i64 1)).run Try.prog w = .ok (.int .i64 (wd + 1)) w)
    (x8 : ∀ w, (Instr.fieldAt 25 (.pointer (some ⟨bx, 0, none⟩)) 3).run Try.prog w = .ok (.pointer (some ⟨bx, 3, none⟩)) w)
    (x9 : ∀ w, S w → (Instr.loadAt 3 (.pointer (some ⟨bx, 3, none⟩))).run Try.prog w = .ok (.int .i64 ln) w)
    (x10 : ∀ w, (Instr.fieldAt 25 (.pointer (some ⟨bx, 0, none⟩)) 4).run Try.prog w = .ok (.pointer (some ⟨bx, 4, none⟩)) w)
    (x11 : ∀ w, S w → (Instr.loadAt 3 (.pointer (some ⟨bx, 4, none⟩))).run Try.prog w = .ok (.int .i64 st) w)
    (x12 : ∀ w xa xc XA XC, S w → BmAt w xa nn XA XC LL → Calls Try.prog 10 #[.slice xa nn xc, .slice ra mm rc, .int .i64 (wd + 1), .int .i64 ln, .int .i64 st] w fun e w' => (∃ ya yb yc yd Ar Cr, e = .returned (.tuple #[.slice ya qn yc, .slice yb qn yd, .int .i64 ec]) ∧ qn ≤ yc ∧ qn ≤ yd ∧ BmC w' ya qn Ar Cr LG ∧ Reads .i64 w' yb qn GP) ∧ Below w.heap.size w w' ∧ S w')
    (u1 : a0.tmps.getD 1 undef = .pointer (some ⟨bx, 0, none⟩))
    (hs : 95 ≤ a0.tmps.size)
    (fin : ∀ a w, a.tmps.size = a0.tmps.size → a.defers = a0.defers → (∀ s, (∀ i, i < 20 → wbD i ≠ some s) → a.tmps.getD s undef = a0.tmps.getD s undef) → S w → (∀ i d, i < 20 → wbD i = some d → wbF bx nn mm la ra lc rc wd ln st ec qn LL LG GP i (a.tmps.getD d undef) w) → Q .normal a w) : (Code.region id ops true).wp Try.prog Q a0 w0 := by
  have r9 : ∀ args w, (callFunc 9 args).run Try.prog w = .ok (.enter 9 args) w := enters_of Try.func9 (by kernel_rfl) rfl
  have r10 : ∀ args w, (callFunc 10 args).run Try.prog w = .ok (.enter 10 args) w := enters_of Try.func10 (by kernel_rfl) rfl
  refine wp_region_inv2 (by kernel_rfl) hlow (Inv 20 wbD a0 (fun l a w => S w ∧ Kept2 20 wbD a0 l a) (fun _ => wbF bx nn mm la ra lc rc wd ln st ec qn LL LG GP)) (Inv.start ⟨hS, kept2_start _ _ _⟩) ?_ ?_
  · intro l i o a w ho hl hcl hdep hI
    have hi : i < 20 := by rw [← hsz]; exact (Array.getElem?_eq_some_iff.1 ho).1
    have ev : ∀ (s : Nat), a.eval (.tmp s) = a.tmps.getD s undef := fun _ => rfl
    have evf : ∀ f, a.eval (.func f) = .func (.func f) #[] #[] := fun _ => rfl
    have evc : ∀ c : Value, a.eval (.const c) = c := fun _ => rfl
    have inj : ∀ d, wbD i = some d → ∀ j d', j < 20 → wbD j = some d' → j ≠ i → d' ≠ d := fun d hd j d' hj hd' hne e => hne (wbD_inj j hj i hi (by rw [hd', hd, e]) (by rw [hd']; simp))
    have kp : ∀ s, (∀ i, i < 20 → wbD i ≠ some s) → a.tmps.getD s undef = a0.tmps.getD s undef := hI.kept
    have hw : S w := hI.world.1
    have k2 := hI.world.2
    have ex0 := hI.world.2
    have go : ∀ {d : Nat} {v : Value} {w' : World}, wbD i = some d → Below w.heap.size w w' → S w' → wbF bx nn mm la ra lc rc wd ln st ec qn LL LG GP i v w' → Inv 20 wbD a0 (fun l a w => S w ∧ Kept2 20 wbD a0 l a) (fun _ => wbF bx nn mm la ra lc rc wd ln st ec qn LL LG GP) (fun j => l j || j == i) (a.put (some d) v) w' := by
      intro d v w' hD hb hS' hF
      exact hI.put hi hD (Nat.lt_of_lt_of_le (wbD_lt i hi d hD) hs) (inj d hD) ⟨hS', k2.put hD (by rw [hI.size]; exact Nat.lt_of_lt_of_le (wbD_lt i hi d hD) hs) hi⟩ hF (fun j u _ _ _ hf => wbF_below hf hb)
    rcases (show i = 0 ∨ i = 1 ∨ i = 2 ∨ i = 3 ∨ i = 4 ∨ i = 5 ∨ i = 6 ∨ i = 7 ∨ i = 8 ∨ i = 9 ∨ i = 10 ∨ i = 11 ∨ i = 12 ∨ i = 13 ∨ i = 14 ∨ i = 15 ∨ i = 16 ∨ i = 17 ∨ i = 18 ∨ i = 19 by omega) with rfl | rfl | rfl | rfl | rfl | rfl | rfl | rfl | rfl | rfl | rfl | rfl | rfl | rfl | rfl | rfl | rfl | rfl | rfl | rfl
    · obtain ⟨o', e1, e2, e3, e4, e5⟩ := o0
      obtain rfl := Option.some.inj (ho.symm.trans e1)
      have dp := dep_of' e5 hdep
      have U1 : a.tmps.getD 1 undef = .pointer (some ⟨bx, 0, none⟩) := (kp 1 (by decide)).trans u1
      exact wpOp_value (v := .pointer (some ⟨bx, 0, none⟩)) (w' := w) ho e4 (by simp [execOp, e3, ev, evc, U1, x0 w]) (by rw [e2]; exact go rfl (Below.refl _ _) hw rfl)
    · obtain ⟨o', e1, e2, e3, e4, e5⟩ := o1
      obtain rfl := Option.some.inj (ho.symm.trans e1)
      have dp := dep_of' e5 hdep
      have V0 : a.tmps.getD 40 undef = .pointer (some ⟨bx, 0, none⟩) := hI.val 0 40 (by decide) rfl (dp 0 (by decide))
      exact wpOp_value (v := .slice la nn lc) (w' := w) ho e4 (by simp [execOp, e3, ev, evc, V0, x1 w hw]) (by rw [e2]; exact go rfl (Below.refl _ _) hw rfl)
    · obtain ⟨o', e1, e2, e3, e4, e5⟩ := o2
      obtain rfl := Option.some.inj (ho.symm.trans e1)
      have dp := dep_of' e5 hdep
      have V1 : a.tmps.getD 41 undef = .slice la nn lc := hI.val 1 41 (by decide) rfl (dp 1 (by decide))
      refine wpOp_call (f := 9) (args := #[.slice la nn lc]) ho e4 (by simp [execOp, e3, resolve, invoke, Deferred.ofValue, r9, ev, evf, evc, V1]) ((x2 w hw).mono ?_)
      rintro e W' ⟨⟨xa, xc, XA, XC, rfl, h1⟩, hb6, hs6⟩
      refine ⟨_, rfl, ?_⟩
      rw [e2]
      exact go rfl hb6 hs6 ⟨xa, xc, XA, XC, rfl, h1⟩
    · obtain ⟨o', e1, e2, e3, e4, e5⟩ := o3
      obtain rfl := Option.some.inj (ho.symm.trans e1)
      have dp := dep_of' e5 hdep
      have U1 : a.tmps.getD 1 undef = .pointer (some ⟨bx, 0, none⟩) := (kp 1 (by decide)).trans u1
      exact wpOp_value (v := .pointer (some ⟨bx, 1, none⟩)) (w' := w) ho e4 (by simp [execOp, e3, ev, evc, U1, x3 w]) (by rw [e2]; exact go rfl (Below.refl _ _) hw rfl)
    · obtain ⟨o', e1, e2, e3, e4, e5⟩ := o4
      obtain rfl := Option.some.inj (ho.symm.trans e1)
      have dp := dep_of' e5 hdep
      have V3 : a.tmps.getD 43 undef = .pointer (some ⟨bx, 1, none⟩) := hI.val 3 43 (by decide) rfl (dp 3 (by decide))
      exact wpOp_value (v := .slice ra mm rc) (w' := w) ho e4 (by simp [execOp, e3, ev, evc, V3, x4 w hw]) (by rw [e2]; exact go rfl (Below.refl _ _) hw rfl)
    · obtain ⟨o', e1, e2, e3, e4, e5⟩ := o5
      obtain rfl := Option.some.inj (ho.symm.trans e1)
      have dp := dep_of' e5 hdep
      have U1 : a.tmps.getD 1 undef = .pointer (some ⟨bx, 0, none⟩) := (kp 1 (by decide)).trans u1
      exact wpOp_value (v := .pointer (some ⟨bx, 2, none⟩)) (w' := w) ho e4 (by simp [execOp, e3, ev, evc, U1, x5 w]) (by rw [e2]; exact go rfl (Below.refl _ _) hw rfl)
    · obtain ⟨o', e1, e2, e3, e4, e5⟩ := o6
      obtain rfl := Option.some.inj (ho.symm.trans e1)
      have dp := dep_of' e5 hdep
      have V5 : a.tmps.getD 45 undef = .pointer (some ⟨bx, 2, none⟩) := hI.val 5 45 (by decide) rfl (dp 5 (by decide))
      exact wpOp_value (v := .int .i64 wd) (w' := w) ho e4 (by simp [execOp, e3, ev, evc, V5, x6 w hw]) (by rw [e2]; exact go rfl (Below.refl _ _) hw rfl)
    · obtain ⟨o', e1, e2, e3, e4, e5⟩ := o7
      obtain rfl := Option.some.inj (ho.symm.trans e1)
      have dp := dep_of' e5 hdep
      have V6 : a.tmps.getD 46 undef = .int .i64 wd := hI.val 6 46 (by decide) rfl (dp 6 (by decide))
      exact wpOp_value (v := .int .i64 (wd + 1)) (w' := w) ho e4 (by simp [execOp, e3, ev, evc, V6, x7 w, eqGuard]) (by rw [e2]; exact go rfl (Below.refl _ _) hw rfl)
    · obtain ⟨o', e1, e2, e3, e4, e5⟩ := o8
      obtain rfl := Option.some.inj (ho.symm.trans e1)
      have dp := dep_of' e5 hdep
      have U1 : a.tmps.getD 1 undef = .pointer (some ⟨bx, 0, none⟩) := (kp 1 (by decide)).trans u1
      exact wpOp_value (v := .pointer (some ⟨bx, 3, none⟩)) (w' := w) ho e4 (by simp [execOp, e3, ev, evc, U1, x8 w]) (by rw [e2]; exact go rfl (Below.refl _ _) hw rfl)
    · obtain ⟨o', e1, e2, e3, e4, e5⟩ := o9
      obtain rfl := Option.some.inj (ho.symm.trans e1)
      have dp := dep_of' e5 hdep
      have V8 : a.tmps.getD 48 undef = .pointer (some ⟨bx, 3, none⟩) := hI.val 8 48 (by decide) rfl (dp 8 (by decide))
      exact wpOp_value (v := .int .i64 ln) (w' := w) ho e4 (by simp [execOp, e3, ev, evc, V8, x9 w hw]) (by rw [e2]; exact go rfl (Below.refl _ _) hw rfl)
    · obtain ⟨o', e1, e2, e3, e4, e5⟩ := o10
      obtain rfl := Option.some.inj (ho.symm.trans e1)
      have dp := dep_of' e5 hdep
      have U1 : a.tmps.getD 1 undef = .pointer (some ⟨bx, 0, none⟩) := (kp 1 (by decide)).trans u1
      exact wpOp_value (v := .pointer (some ⟨bx, 4, none⟩)) (w' := w) ho e4 (by simp [execOp, e3, ev, evc, U1, x10 w]) (by rw [e2]; exact go rfl (Below.refl _ _) hw rfl)
    · obtain ⟨o', e1, e2, e3, e4, e5⟩ := o11
      obtain rfl := Option.some.inj (ho.symm.trans e1)
      have dp := dep_of' e5 hdep
      have V10 : a.tmps.getD 50 undef = .pointer (some ⟨bx, 4, none⟩) := hI.val 10 50 (by decide) rfl (dp 10 (by decide))
      exact wpOp_value (v := .int .i64 st) (w' := w) ho e4 (by simp [execOp, e3, ev, evc, V10, x11 w hw]) (by rw [e2]; exact go rfl (Below.refl _ _) hw rfl)
    · obtain ⟨o', e1, e2, e3, e4, e5⟩ := o12
      obtain rfl := Option.some.inj (ho.symm.trans e1)
      have dp := dep_of' e5 hdep
      obtain ⟨xa2, xc2, XA2, XC2, V2, f2⟩ : ∃ xa xc XA XC, a.tmps.getD 42 undef = .slice xa nn xc ∧ BmAt w xa nn XA XC LL := hI.val 2 42 (by decide) rfl (dp 2 (by decide))
      have V4 : a.tmps.getD 44 undef = .slice ra mm rc := hI.val 4 44 (by decide) rfl (dp 4 (by decide))
      have V7 : a.tmps.getD 47 undef = .int .i64 (wd + 1) := hI.val 7 47 (by decide) rfl (dp 7 (by decide))
      have V9 : a.tmps.getD 49 undef = .int .i64 ln := hI.val 9 49 (by decide) rfl (dp 9 (by decide))
      have V11 : a.tmps.getD 51 undef = .int .i64 st := hI.val 11 51 (by decide) rfl (dp 11 (by decide))
      refine wpOp_call (f := 10) (args := #[.slice xa2 nn xc2, .slice ra mm rc, .int .i64 (wd + 1), .int .i64 ln, .int .i64 st]) ho e4 (by simp [execOp, e3, resolve, invoke, Deferred.ofValue, r10, ev, evf, evc, V2, V4, V7, V9, V11]) ((x12 w xa2 xc2 XA2 XC2 hw f2).mono ?_)
      rintro e W' ⟨⟨ya, yb, yc, yd, Ar, Cr, rfl, h1, h2, h3, h4⟩, hb6, hs6⟩
      refine ⟨_, rfl, ?_⟩
      rw [e2]
      exact go rfl hb6 hs6 ⟨ya, yb, yc, yd, Ar, Cr, rfl, h1, h2, h3, h4⟩
    · obtain ⟨o', e1, e2, e3, e4, e5⟩ := o13
      obtain rfl := Option.some.inj (ho.symm.trans e1)
      have dp := dep_of' e5 hdep
      obtain ⟨ya12, yb12, yc12, yd12, Ar12, Cr12, V12, f12, g12, h12, j12⟩ : ∃ ya yb yc yd Ar Cr, a.tmps.getD 52 undef = .tuple #[.slice ya qn yc, .slice yb qn yd, .int .i64 ec] ∧ qn ≤ yc ∧ qn ≤ yd ∧ BmC w ya qn Ar Cr LG ∧ Reads .i64 w yb qn GP := hI.val 12 52 (by decide) rfl (dp 12 (by decide))
      exact wpOp_value (v := .tuple #[.slice ya12 qn yc12, .slice yb12 qn yd12, .int .i64 ec]) (w' := w) ho e4 (by simp [execOp, e3, ev, evc, V12]) (by rw [e2]; exact go rfl (Below.refl _ _) hw ⟨ya12, yb12, yc12, yd12, Ar12, Cr12, rfl, f12, g12, h12, j12⟩)
    · obtain ⟨o', e1, e2, e3, e4, e5⟩ := o14
      obtain rfl := Option.some.inj (ho.symm.trans e1)
      have dp := dep_of' e5 hdep
      obtain ⟨ya13, yb13, yc13, yd13, Ar13, Cr13, V13, f13, g13, h13, j13⟩ : ∃ ya yb yc yd Ar Cr, a.tmps.getD 39 undef = .tuple #[.slice ya qn yc, .slice yb qn yd, .int .i64 ec] ∧ qn ≤ yc ∧ qn ≤ yd ∧ BmC w ya qn Ar Cr LG ∧ Reads .i64 w yb qn GP := hI.val 13 39 (by decide) rfl (dp 13 (by decide))
      exact wpOp_value (v := .slice ya13 qn yc13) (w' := w) ho e4 (by simp [execOp, e3, ev, evc, V13, Instr.extract]) (by rw [e2]; exact go rfl (Below.refl _ _) hw ⟨ya13, yc13, Ar13, Cr13, rfl, f13, h13⟩)
    · obtain ⟨o', e1, e2, e3, e4, e5⟩ := o15
      obtain rfl := Option.some.inj (ho.symm.trans e1)
      have dp := dep_of' e5 hdep
      obtain ⟨ya13, yb13, yc13, yd13, Ar13, Cr13, V13, f13, g13, h13, j13⟩ : ∃ ya yb yc yd Ar Cr, a.tmps.getD 39 undef = .tuple #[.slice ya qn yc, .slice yb qn yd, .int .i64 ec] ∧ qn ≤ yc ∧ qn ≤ yd ∧ BmC w ya qn Ar Cr LG ∧ Reads .i64 w yb qn GP := hI.val 13 39 (by decide) rfl (dp 13 (by decide))
      exact wpOp_value (v := .slice yb13 qn yd13) (w' := w) ho e4 (by simp [execOp, e3, ev, evc, V13, Instr.extract]) (by rw [e2]; exact go rfl (Below.refl _ _) hw ⟨yb13, yd13, rfl, g13, j13⟩)
    · obtain ⟨o', e1, e2, e3, e4, e5⟩ := o16
      obtain rfl := Option.some.inj (ho.symm.trans e1)
      have dp := dep_of' e5 hdep
      obtain ⟨ya13, yb13, yc13, yd13, Ar13, Cr13, V13, f13, g13, h13, j13⟩ : ∃ ya yb yc yd Ar Cr, a.tmps.getD 39 undef = .tuple #[.slice ya qn yc, .slice yb qn yd, .int .i64 ec] ∧ qn ≤ yc ∧ qn ≤ yd ∧ BmC w ya qn Ar Cr LG ∧ Reads .i64 w yb qn GP := hI.val 13 39 (by decide) rfl (dp 13 (by decide))
      exact wpOp_value (v := .int .i64 ec) (w' := w) ho e4 (by simp [execOp, e3, ev, evc, V13, Instr.extract]) (by rw [e2]; exact go rfl (Below.refl _ _) hw rfl)
    · obtain ⟨o', e1, e2, e3, e4, e5⟩ := o17
      obtain rfl := Option.some.inj (ho.symm.trans e1)
      have dp := dep_of' e5 hdep
      obtain ⟨ya14, yc14, Ar14, Cr14, V14, f14, g14⟩ : ∃ ya yc Ar Cr, a.tmps.getD 53 undef = .slice ya qn yc ∧ qn ≤ yc ∧ BmC w ya qn Ar Cr LG := hI.val 14 53 (by decide) rfl (dp 14 (by decide))
      exact wpOp_value (v := .slice ya14 qn yc14) (w' := w) ho e4 (by simp [execOp, e3, ev, evc, V14]) (by rw [e2]; exact go rfl (Below.refl _ _) hw ⟨ya14, yc14, Ar14, Cr14, rfl, f14, g14⟩)
    · obtain ⟨o', e1, e2, e3, e4, e5⟩ := o18
      obtain rfl := Option.some.inj (ho.symm.trans e1)
      have dp := dep_of' e5 hdep
      obtain ⟨yb15, yd15, V15, f15, g15⟩ : ∃ yb yd, a.tmps.getD 54 undef = .slice yb qn yd ∧ qn ≤ yd ∧ Reads .i64 w yb qn GP := hI.val 15 54 (by decide) rfl (dp 15 (by decide))
      exact wpOp_value (v := .slice yb15 qn yd15) (w' := w) ho e4 (by simp [execOp, e3, ev, evc, V15]) (by rw [e2]; exact go rfl (Below.refl _ _) hw ⟨yb15, yd15, rfl, f15, g15⟩)
    · obtain ⟨o', e1, e2, e3, e4, e5⟩ := o19
      obtain rfl := Option.some.inj (ho.symm.trans e1)
      have dp := dep_of' e5 hdep
      have V16 : a.tmps.getD 55 undef = .int .i64 ec := hI.val 16 55 (by decide) rfl (dp 16 (by decide))
      exact wpOp_value (v := .int .i64 ec) (w' := w) ho e4 (by simp [execOp, e3, ev, evc, V16]) (by rw [e2]; exact go rfl (Below.refl _ _) hw rfl)
  · intro l a w hall hI
    have all : ∀ j, j < 20 → l j = true := fun j hj => hall j (by rw [hsz]; exact hj)
    exact fin a w hI.size hI.defers hI.kept hI.world.1 (fun i d hi hD => hI.val i d hi hD (all i hi))

end Go.Proofs.Yteeljnibglnflaa
