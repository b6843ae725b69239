/- The two regions of GraftFits that draw their order. -/
import Derived.Test.YtbmlafgolmmekabRows
import Derived.Test.YtbmlafgolmmekabView
import Derived.Test.YtbmlafgolmmekabOwn
import Derived.Test.YtbmlafgolmmekabCfg
import Derived.Test.YtbmlafgolmmekabCfgs
import Derived.Test.YtbmlafgolmmekabCfgRef
import Derived.Test.YtbmlafgolmmekabHeld
import Derived.Test.YtbmlafgolmmekabReader
import Derived.Test.YtbmlafgolmmekabSls
import Derived.Test.YtbmlafgolmmekabSteps
import Derived.Test.YtbmlafgolmmekabInv
import Derived.Test.YtbmlafgolmmekabTyped
import Derived.Test.YtbmlafgolmmekabAds
import Derived.Test.YtbmlafgolmmekabRanges
import Derived.Test.YtbmlafgolmmekabPush
import Derived.Test.YtbmlafgolmmekabRegs
import Derived.WalkKit
import Derived.ProofKit
import Derived.OpenShut
import Derived.Below
import Derived.WalkLawsBesides
import Derived.Deep.QuietTactic
import Derived.BigQuiet
import Derived.Lib.QuietBelow
import Derived.Deep.RegionHeld3
import Derived.Orders
import Derived.ArgAppend
import Derived.Maps.AppendAt
namespace Go.Proofs.Ytbmlafgolmmekab
open Go.ChangeShapes Go.WideShapes Go.ChangeAt Go.RowKit
open Go.Sort hiding Below
set_option linter.unusedVariables false
set_option linter.unusedSimpArgs false


theorem run_neq0 (w : World) : (binOp .neq 28 (.int .i64 0) (.int .i64 0)).run Try.prog w = .ok (.bool false) w := by go_simp
theorem run_eqlB {Z : Int} {B : Bool} (h : (Z == 0) = B) (w : World) : (binOp .eql 28 (.int .i64 Z) (.int .i64 0)).run Try.prog w = .ok (.bool B) w := by
  subst h
  go_simp
theorem run_neqB (B : Bool) (w : World) : (binOp .neq 4 (.bool B) (.bool B)).run Try.prog w = .ok (.bool false) w := by
  cases B <;> go_simp

theorem wpOp_value_f {P : Program} {ops : Array Oper} {Q : Exit → Act → World → Prop} {i gi p : Nat} {o og : Oper} {a : Act} {w w' : World} {v : Value} {K : Act → World → Prop} (ho : ops[i]? = some o) (hg : o.guard = some (gi, false)) (hgo : ops[gi]? = some og) (hgd : og.dst = some p) (hp : p < a.tmps.size) (hb : a.tmps.getD p undef = .bool false)
    (hr : (execOp a.eval o).run P w = .ok (.value v) w') (hK : K (a.put o.dst v) w') : wpOp P ops Q i K a w := by
  have hy : yielded ops a.tmps gi = some false := by
    unfold yielded
    rw [hgo]
    simp only [Option.bind_some, hgd]
    rw [Array.getD_eq_getD_getElem?] at hb
    rw [Array.getElem?_eq_getElem hp] at hb ⊢
    simp only [Option.getD_some] at hb
    rw [hb]
  unfold wpOp
  simp only [ho]
  have hw : Region.wanted o (yielded ops a.tmps) = true := by simp [Region.wanted, hg, hy]
  rw [if_pos hw]
  refine .inl ?_
  unfold Oper.wp
  rw [hr]
  exact hK
theorem wpOp_call_f {P : Program} {ops : Array Oper} {Q : Exit → Act → World → Prop} {i gi p : Nat} {o og : Oper} {a : Act} {w : World} {f : FuncId} {args : Array Value} {K : Act → World → Prop} (ho : ops[i]? = some o) (hg : o.guard = some (gi, false)) (hgo : ops[gi]? = some og) (hgd : og.dst = some p) (hp : p < a.tmps.size) (hb : a.tmps.getD p undef = .bool false)
    (hr : (execOp a.eval o).run P w = .ok (.enter f args) w) (c : Calls P f args w fun e w' => ∃ v, e = .returned v ∧ K (a.put o.dst v) w') : wpOp P ops Q i K a w := by
  have hy : yielded ops a.tmps gi = some false := by
    unfold yielded
    rw [hgo]
    simp only [Option.bind_some, hgd]
    rw [Array.getD_eq_getD_getElem?] at hb
    rw [Array.getElem?_eq_getElem hp] at hb ⊢
    simp only [Option.getD_some] at hb
    rw [hb]
  unfold wpOp
  simp only [ho]
  have hw : Region.wanted o (yielded ops a.tmps) = true := by simp [Region.wanted, hg, hy]
  rw [if_pos hw]
  refine .inl ?_
  unfold Oper.wp
  rw [hr]
  unfold Oper.upon
  refine c.mono ?_
  rintro e w' ⟨v, rfl, hK⟩
  exact hK


def encD (i : Nat) : Option Nat := match i with | 0 => some 42 | 1 => some 43 | 2 => some 44 | 3 => some 45 | 4 => some 41 | 5 => some 46 | 6 => some 47 | 7 => some 8 | 8 => some 9 | _ => none
theorem encD_inj : ∀ i, i < 9 → ∀ j, j < 9 → encD i = encD j → encD i ≠ none → i = j := by decide
theorem encD_lt : ∀ i, i < 9 → ∀ d, encD i = some d → d < 48 := by
  intro i hi d h
  have : ∀ i, i < 9 → (encD i).all (fun d => decide (d < 48)) = true := by decide
  have := this i hi
  rw [h] at this
  simpa using this
def encF (R S E : Int) (TT : ByteArray) (MV CV : Value) (m : AdV) (i : Nat) (q : Value) (w : World) : Prop := match i with
  | 0 => q = MV
  | 1 => ∃ (L : SL) (Y : Nat → Nat → SL), q = .agg #[.int .i64 R, .int .i64 S, .slice L.a L.n L.c] ∧ AdAt w L Y m
  | 2 => q = CV
  | 3 => q = .tuple #[.string TT, .int .i64 E]
  | 4 => q = .tuple #[.string TT, .int .i64 E]
  | 5 => q = .string TT
  | 6 => q = .int .i64 E
  | 7 => q = .string TT
  | 8 => q = .int .i64 E
  | _ => True
theorem encF_below {R S E : Int} {TT : ByteArray} {MV CV : Value} {m : AdV} {i : Nat} {q : Value} {w w' : World} (h : encF R S E TT MV CV m i q w) (hb : Below w.heap.size w w') : encF R S E TT MV CV m i q w' := by
  unfold encF at h ⊢
  split
  · exact h
  · obtain ⟨L, Y, f1, f2⟩ := h
    exact ⟨L, Y, f1, f2.below hb⟩
  · exact h
  · exact h
  · exact h
  · exact h
  · exact h
  · exact h
  · exact h
  · trivial

set_option maxHeartbeats 4000000 in
theorem enc_region {id : Nat} {ops : Array Oper} {Q : Exit → Act → World → Prop} {a0 : Act} {w0 : World} (R S E : Int) (TT : ByteArray) (MV CV : Value) (m : AdV) (hlow : lowB ops = true) (hsz : ops.size = 9)
    (o0 : OpIn ops 0 (some 42) (.load 24 (.tmp 3)) none []) (o1 : OpIn ops 1 (some 43) (.call { callee := .value (.func 8), args := #[.tmp 42], argTypes := #[24] }) none [0]) (o2 : OpIn ops 2 (some 44) (.load 26 (.tmp 4)) none []) (o3 : OpIn ops 3 (some 45) (.call { callee := .value (.func 7), args := #[.tmp 43, .tmp 44], argTypes := #[24, 26] }) none [1, 2]) (o4 : OpIn ops 4 (some 41) (.move (.tmp 45)) none [3]) (o5 : OpIn ops 5 (some 46) (.extract (.tmp 41) 0) none [4]) (o6 : OpIn ops 6 (some 47) (.extract (.tmp 41) 1) none [4]) (o7 : OpIn ops 7 (some 8) (.assign (.tmp 46)) none [5]) (o8 : OpIn ops 8 (some 9) (.assign (.tmp 47)) none [6])
    (ab cb : Nat) (ha : a0.tmps.getD 3 undef = .pointer (some ⟨ab, 0, none⟩)) (hc : a0.tmps.getD 4 undef = .pointer (some ⟨cb, 0, none⟩))
    (l24 : ∀ W, Below w0.heap.size w0 W → (Instr.loadAt 24 (.pointer (some ⟨ab, 0, none⟩))).run Try.prog W = .ok MV W) (l26 : ∀ W, Below w0.heap.size w0 W → (Instr.loadAt 26 (.pointer (some ⟨cb, 0, none⟩))).run Try.prog W = .ok CV W)
    (k9 : ∀ W, Below w0.heap.size w0 W → Calls Try.prog 8 #[MV] W fun e W' => ∃ (L : SL) (Y : Nat → Nat → SL), e = .returned (.agg #[.int .i64 R, .int .i64 S, .slice L.a L.n L.c]) ∧ AdAt W' L Y m ∧ Below W.heap.size W W')
    (k10 : ∀ W (L : SL) (Y : Nat → Nat → SL), Below w0.heap.size w0 W → AdAt W L Y m → Calls Try.prog 7 #[.agg #[.int .i64 R, .int .i64 S, .slice L.a L.n L.c], CV] W fun e W' => e = .returned (.tuple #[.string TT, .int .i64 E]) ∧ Below W.heap.size W W')
    (hs : 48 ≤ a0.tmps.size)
    (fin : ∀ a w, a.tmps.size = a0.tmps.size → a.defers = a0.defers → (∀ s, (∀ i, i < 9 → encD i ≠ some s) → a.tmps.getD s undef = a0.tmps.getD s undef) → Below w0.heap.size w0 w → (∀ i d, i < 9 → encD i = some d → encF R S E TT MV CV m i (a.tmps.getD d undef) w) → Q .normal a w) : (Code.region id ops true).wp Try.prog Q a0 w0 := by
  have r7 : ∀ args w, (callFunc 7 args).run Try.prog w = .ok (.enter 7 args) w := enters Try.func7 (by kernel_rfl) rfl
  have r8 : ∀ args w, (callFunc 8 args).run Try.prog w = .ok (.enter 8 args) w := enters Try.func8 (by kernel_rfl) rfl
  refine wp_region_inv2 (by kernel_rfl) hlow (Inv 9 encD a0 (fun _ _ w => Below w0.heap.size w0 w) (fun _ => encF R S E TT MV CV m)) (Inv.start ⟨rfl, rfl, rfl, Nat.le_refl _, fun _ _ => rfl⟩) ?_ ?_
  · intro l i o a w ho hl hcl hdep hI
    have hi : i < 9 := by rw [← hsz]; exact (Array.getElem?_eq_some_iff.1 ho).1
    have ev : ∀ (s : Nat), a.eval (.tmp s) = a.tmps.getD s undef := fun _ => rfl
    have evf : ∀ f, a.eval (.func f) = .func (.func f) #[] #[] := fun _ => rfl
    have evc : ∀ c : Value, a.eval (.const c) = c := fun _ => rfl
    have inj : ∀ d, encD i = some d → ∀ j d', j < 9 → encD j = some d' → j ≠ i → d' ≠ d := fun d hd j d' hj hd' hne e => hne (encD_inj j hj i hi (by rw [hd', hd, e]) (by rw [hd']; simp))
    have kp : ∀ s, (∀ i, i < 9 → encD i ≠ some s) → a.tmps.getD s undef = a0.tmps.getD s undef := hI.kept
    have oth : ∀ j, j ≠ i → (l j || j == i) = l j := fun j hj => by rw [show (j == i) = false by simp [hj], Bool.or_false]
    have get : ∀ (d : Nat) (v : Value) (s : Nat), d < 48 → s ≠ d → (a.put (some d) v).tmps.getD s undef = a.tmps.getD s undef := fun d v s hd hs' => by
      rw [get_put a d v s (by rw [hI.size]; exact Nat.lt_of_lt_of_le hd hs), if_neg hs']
    have hw : Below w0.heap.size w0 w := hI.world
    have go : ∀ {d : Nat} {v : Value} {w' : World}, encD i = some d → Below w.heap.size w w' → encF R S E TT MV CV m i v w' → Inv 9 encD a0 (fun _ _ w => Below w0.heap.size w0 w) (fun _ => encF R S E TT MV CV m) (fun j => l j || j == i) (a.put (some d) v) w' := by
      intro d v w' hD hb hF
      exact hI.put hi hD (Nat.lt_of_lt_of_le (encD_lt i hi d hD) hs) (inj d hD) (below_then hw hb) hF (fun j u _ _ _ hf => encF_below hf hb)
    rcases (show i = 0 ∨ i = 1 ∨ i = 2 ∨ i = 3 ∨ i = 4 ∨ i = 5 ∨ i = 6 ∨ i = 7 ∨ i = 8 by omega) with rfl | rfl | rfl | rfl | rfl | rfl | rfl | rfl | rfl
    · obtain ⟨o', e1, e2, e3, e4, e5⟩ := o0
      obtain rfl := Option.some.inj (ho.symm.trans e1)
      have dp := dep_of' e5 hdep
      refine wpOp_value (v := MV) (w' := w) ho e4 (by simp [execOp, e3, ev, evc, kp 3 (by decide), ha, l24 w hw]) (by rw [e2]; exact go rfl (Below.refl _ _) rfl)
    · obtain ⟨o', e1, e2, e3, e4, e5⟩ := o1
      obtain rfl := Option.some.inj (ho.symm.trans e1)
      have dp := dep_of' e5 hdep
      have V0 : a.tmps.getD 42 undef = MV := hI.val 0 42 (by decide) rfl (dp 0 (by decide))
      refine wpOp_call (f := 8) (args := #[MV]) ho e4 (by simp [execOp, e3, resolve, invoke, Deferred.ofValue, r8, ev, evf, evc, V0]) ((k9 w hw).mono ?_)
      rintro e W' ⟨L', Y', rfl, ha', hbw⟩
      refine ⟨_, rfl, ?_⟩
      rw [e2]
      exact go rfl hbw ⟨L', Y', rfl, ha'⟩
    · obtain ⟨o', e1, e2, e3, e4, e5⟩ := o2
      obtain rfl := Option.some.inj (ho.symm.trans e1)
      have dp := dep_of' e5 hdep
      refine wpOp_value (v := CV) (w' := w) ho e4 (by simp [execOp, e3, ev, evc, kp 4 (by decide), hc, l26 w hw]) (by rw [e2]; exact go rfl (Below.refl _ _) rfl)
    · obtain ⟨o', e1, e2, e3, e4, e5⟩ := o3
      obtain rfl := Option.some.inj (ho.symm.trans e1)
      have dp := dep_of' e5 hdep
      obtain ⟨L1, Y1, V1, ad1⟩ : ∃ (L : SL) (Y : Nat → Nat → SL), a.tmps.getD 43 undef = .agg #[.int .i64 R, .int .i64 S, .slice L.a L.n L.c] ∧ AdAt w L Y m := hI.val 1 43 (by decide) rfl (dp 1 (by decide))
      have V2 : a.tmps.getD 44 undef = CV := hI.val 2 44 (by decide) rfl (dp 2 (by decide))
      refine wpOp_call (f := 7) (args := #[.agg #[.int .i64 R, .int .i64 S, .slice L1.a L1.n L1.c], CV]) ho e4 (by simp [execOp, e3, resolve, invoke, Deferred.ofValue, r7, ev, evf, evc, V1, V2]) ((k10 w L1 Y1 hw ad1).mono ?_)
      rintro e W' ⟨rfl, hbw⟩
      refine ⟨_, rfl, ?_⟩
      rw [e2]
      exact go rfl hbw rfl
    · obtain ⟨o', e1, e2, e3, e4, e5⟩ := o4
      obtain rfl := Option.some.inj (ho.symm.trans e1)
      have dp := dep_of' e5 hdep
      have V3 : a.tmps.getD 45 undef = .tuple #[.string TT, .int .i64 E] := hI.val 3 45 (by decide) rfl (dp 3 (by decide))
      refine wpOp_value (v := .tuple #[.string TT, .int .i64 E]) (w' := w) ho e4 (by simp [execOp, e3, ev, evc, V3]) (by rw [e2]; exact go rfl (Below.refl _ _) rfl)
    · obtain ⟨o', e1, e2, e3, e4, e5⟩ := o5
      obtain rfl := Option.some.inj (ho.symm.trans e1)
      have dp := dep_of' e5 hdep
      have V4 : a.tmps.getD 41 undef = .tuple #[.string TT, .int .i64 E] := hI.val 4 41 (by decide) rfl (dp 4 (by decide))
      refine wpOp_value (v := .string TT) (w' := w) ho e4 (by simp [execOp, e3, ev, evc, V4, run_ext0]) (by rw [e2]; exact go rfl (Below.refl _ _) rfl)
    · obtain ⟨o', e1, e2, e3, e4, e5⟩ := o6
      obtain rfl := Option.some.inj (ho.symm.trans e1)
      have dp := dep_of' e5 hdep
      have V4 : a.tmps.getD 41 undef = .tuple #[.string TT, .int .i64 E] := hI.val 4 41 (by decide) rfl (dp 4 (by decide))
      refine wpOp_value (v := .int .i64 E) (w' := w) ho e4 (by simp [execOp, e3, ev, evc, V4, run_ext1]) (by rw [e2]; exact go rfl (Below.refl _ _) rfl)
    · obtain ⟨o', e1, e2, e3, e4, e5⟩ := o7
      obtain rfl := Option.some.inj (ho.symm.trans e1)
      have dp := dep_of' e5 hdep
      have V5 : a.tmps.getD 46 undef = .string TT := hI.val 5 46 (by decide) rfl (dp 5 (by decide))
      refine wpOp_value (v := .string TT) (w' := w) ho e4 (by simp [execOp, e3, ev, evc, V5]) (by rw [e2]; exact go rfl (Below.refl _ _) rfl)
    · obtain ⟨o', e1, e2, e3, e4, e5⟩ := o8
      obtain rfl := Option.some.inj (ho.symm.trans e1)
      have dp := dep_of' e5 hdep
      have V6 : a.tmps.getD 47 undef = .int .i64 E := hI.val 6 47 (by decide) rfl (dp 6 (by decide))
      refine wpOp_value (v := .int .i64 E) (w' := w) ho e4 (by simp [execOp, e3, ev, evc, V6]) (by rw [e2]; exact go rfl (Below.refl _ _) rfl)
  · intro l a w hall hI
    have all : ∀ j, j < 9 → l j = true := fun j hj => hall j (by rw [hsz]; exact hj)
    exact fin a w hI.size hI.defers hI.kept hI.world (fun i d hi hD => hI.val i d hi hD (all i hi))
def fitD (i : Nat) : Option Nat := match i with | 0 => some 54 | 1 => some 55 | 2 => some 56 | 3 => some 57 | 4 => some 58 | 5 => some 59 | 6 => some 60 | 7 => some 61 | 8 => some 62 | 9 => some 63 | 10 => some 64 | _ => none
theorem fitD_inj : ∀ i, i < 11 → ∀ j, j < 11 → fitD i = fitD j → fitD i ≠ none → i = j := by decide
theorem fitD_lt : ∀ i, i < 11 → ∀ d, fitD i = some d → d < 65 := by
  intro i hi d h
  have : ∀ i, i < 11 → (fitD i).all (fun d => decide (d < 65)) = true := by decide
  have := this i hi
  rw [h] at this
  simpa using this
def fitF (R S Z : Int) (B : Bool) (MV CV : Value) (m : AdV) (i : Nat) (q : Value) (w : World) : Prop := match i with
  | 0 => q = .int .i64 0
  | 1 => q = .bool false
  | 2 => q = .bool false
  | 3 => q = MV
  | 4 => ∃ (L : SL) (Y : Nat → Nat → SL), q = .agg #[.int .i64 R, .int .i64 S, .slice L.a L.n L.c] ∧ AdAt w L Y m
  | 5 => q = CV
  | 6 => q = .int .i64 Z
  | 7 => q = .bool B
  | 8 => q = .bool B
  | 9 => q = .bool false
  | 10 => q = .bool false
  | _ => True
theorem fitF_below {R S Z : Int} {B : Bool} {MV CV : Value} {m : AdV} {i : Nat} {q : Value} {w w' : World} (h : fitF R S Z B MV CV m i q w) (hb : Below w.heap.size w w') : fitF R S Z B MV CV m i q w' := by
  unfold fitF at h ⊢
  split
  · exact h
  · exact h
  · exact h
  · exact h
  · obtain ⟨L, Y, f1, f2⟩ := h
    exact ⟨L, Y, f1, f2.below hb⟩
  · exact h
  · exact h
  · exact h
  · exact h
  · exact h
  · exact h
  · trivial

set_option maxHeartbeats 4000000 in
theorem fit_region {id : Nat} {ops : Array Oper} {Q : Exit → Act → World → Prop} {a0 : Act} {w0 : World} (R S Z : Int) (B : Bool) (MV CV : Value) (m : AdV) (hlow : lowB ops = true) (hsz : ops.size = 11)
    (o0 : OpIn ops 0 (some 54) (.move (.tmp 9)) none []) (o1 : OpIn ops 1 (some 55) (.binOp .neq 28 (.tmp 54) (.const (.int .i64 0)) 28) none [0]) (o2 : OpIn ops 2 (some 56) (.move (.tmp 55)) none [1]) (o3 : OpIn ops 3 (some 57) (.load 24 (.tmp 3)) (some (2, false)) [2]) (o4 : OpIn ops 4 (some 58) (.call { callee := .value (.func 8), args := #[.tmp 57], argTypes := #[24] }) (some (2, false)) [2, 3]) (o5 : OpIn ops 5 (some 59) (.load 26 (.tmp 5)) (some (2, false)) [2]) (o6 : OpIn ops 6 (some 60) (.call { callee := .value (.func 10), args := #[.tmp 58, .tmp 59], argTypes := #[24, 26] }) (some (2, false)) [2, 4, 5]) (o7 : OpIn ops 7 (some 61) (.binOp .eql 28 (.tmp 60) (.const (.int .i64 0)) 28) (some (2, false)) [2, 6]) (o8 : OpIn ops 8 (some 62) (.move (.tmp 7)) (some (2, false)) [2]) (o9 : OpIn ops 9 (some 63) (.binOp .neq 4 (.tmp 61) (.tmp 62) 4) (some (2, false)) [2, 7, 8]) (o10 : OpIn ops 10 (some 64) (.pick (.tmp 56) (.const (.bool true)) (.tmp 63)) none [2, 9])
    (ab cb : Nat) (ha : a0.tmps.getD 3 undef = .pointer (some ⟨ab, 0, none⟩)) (hc : a0.tmps.getD 5 undef = .pointer (some ⟨cb, 0, none⟩)) (h9 : a0.tmps.getD 9 undef = .int .i64 0) (h7 : a0.tmps.getD 7 undef = .bool B) (hB : (Z == 0) = B)
    (l24 : ∀ W, Below w0.heap.size w0 W → (Instr.loadAt 24 (.pointer (some ⟨ab, 0, none⟩))).run Try.prog W = .ok MV W) (l26 : ∀ W, Below w0.heap.size w0 W → (Instr.loadAt 26 (.pointer (some ⟨cb, 0, none⟩))).run Try.prog W = .ok CV W)
    (k9 : ∀ W, Below w0.heap.size w0 W → Calls Try.prog 8 #[MV] W fun e W' => ∃ (L : SL) (Y : Nat → Nat → SL), e = .returned (.agg #[.int .i64 R, .int .i64 S, .slice L.a L.n L.c]) ∧ AdAt W' L Y m ∧ Below W.heap.size W W')
    (k12 : ∀ W (L : SL) (Y : Nat → Nat → SL), Below w0.heap.size w0 W → AdAt W L Y m → Calls Try.prog 10 #[.agg #[.int .i64 R, .int .i64 S, .slice L.a L.n L.c], CV] W fun e W' => e = .returned (.int .i64 Z) ∧ Below W.heap.size W W')
    (hs : 65 ≤ a0.tmps.size)
    (fin : ∀ a w, a.tmps.size = a0.tmps.size → a.defers = a0.defers → (∀ s, (∀ i, i < 11 → fitD i ≠ some s) → a.tmps.getD s undef = a0.tmps.getD s undef) → Below w0.heap.size w0 w → (∀ i d, i < 11 → fitD i = some d → fitF R S Z B MV CV m i (a.tmps.getD d undef) w) → Q .normal a w) : (Code.region id ops true).wp Try.prog Q a0 w0 := by
  have r8 : ∀ args w, (callFunc 8 args).run Try.prog w = .ok (.enter 8 args) w := enters Try.func8 (by kernel_rfl) rfl
  have r10 : ∀ args w, (callFunc 10 args).run Try.prog w = .ok (.enter 10 args) w := enters Try.func10 (by kernel_rfl) rfl
  refine wp_region_inv2 (by kernel_rfl) hlow (Inv 11 fitD a0 (fun _ _ w => Below w0.heap.size w0 w) (fun _ => fitF R S Z B MV CV m)) (Inv.start ⟨rfl, rfl, rfl, Nat.le_refl _, fun _ _ => rfl⟩) ?_ ?_
  · intro l i o a w ho hl hcl hdep hI
    have hi : i < 11 := by rw [← hsz]; exact (Array.getElem?_eq_some_iff.1 ho).1
    have ev : ∀ (s : Nat), a.eval (.tmp s) = a.tmps.getD s undef := fun _ => rfl
    have evf : ∀ f, a.eval (.func f) = .func (.func f) #[] #[] := fun _ => rfl
    have evc : ∀ c : Value, a.eval (.const c) = c := fun _ => rfl
    have inj : ∀ d, fitD i = some d → ∀ j d', j < 11 → fitD j = some d' → j ≠ i → d' ≠ d := fun d hd j d' hj hd' hne e => hne (fitD_inj j hj i hi (by rw [hd', hd, e]) (by rw [hd']; simp))
    have kp : ∀ s, (∀ i, i < 11 → fitD i ≠ some s) → a.tmps.getD s undef = a0.tmps.getD s undef := hI.kept
    have oth : ∀ j, j ≠ i → (l j || j == i) = l j := fun j hj => by rw [show (j == i) = false by simp [hj], Bool.or_false]
    have get : ∀ (d : Nat) (v : Value) (s : Nat), d < 65 → s ≠ d → (a.put (some d) v).tmps.getD s undef = a.tmps.getD s undef := fun d v s hd hs' => by
      rw [get_put a d v s (by rw [hI.size]; exact Nat.lt_of_lt_of_le hd hs), if_neg hs']
    have hw : Below w0.heap.size w0 w := hI.world
    have go : ∀ {d : Nat} {v : Value} {w' : World}, fitD i = some d → Below w.heap.size w w' → fitF R S Z B MV CV m i v w' → Inv 11 fitD a0 (fun _ _ w => Below w0.heap.size w0 w) (fun _ => fitF R S Z B MV CV m) (fun j => l j || j == i) (a.put (some d) v) w' := by
      intro d v w' hD hb hF
      exact hI.put hi hD (Nat.lt_of_lt_of_le (fitD_lt i hi d hD) hs) (inj d hD) (below_then hw hb) hF (fun j u _ _ _ hf => fitF_below hf hb)
    rcases (show i = 0 ∨ i = 1 ∨ i = 2 ∨ i = 3 ∨ i = 4 ∨ i = 5 ∨ i = 6 ∨ i = 7 ∨ i = 8 ∨ i = 9 ∨ i = 10 by omega) with rfl | rfl | rfl | rfl | rfl | rfl | rfl | rfl | rfl | rfl | rfl
    · obtain ⟨o', e1, e2, e3, e4, e5⟩ := o0
      obtain rfl := Option.some.inj (ho.symm.trans e1)
      have dp := dep_of' e5 hdep
      refine wpOp_value (v := .int .i64 0) (w' := w) ho e4 (by simp [execOp, e3, ev, evc, kp 9 (by decide), h9]) (by rw [e2]; exact go rfl (Below.refl _ _) rfl)
    · obtain ⟨o', e1, e2, e3, e4, e5⟩ := o1
      obtain rfl := Option.some.inj (ho.symm.trans e1)
      have dp := dep_of' e5 hdep
      have V0 : a.tmps.getD 54 undef = .int .i64 0 := hI.val 0 54 (by decide) rfl (dp 0 (by decide))
      refine wpOp_value (v := .bool false) (w' := w) ho e4 (by simp [execOp, e3, ev, evc, V0, run_neq0, eqGuard]) (by rw [e2]; exact go rfl (Below.refl _ _) rfl)
    · obtain ⟨o', e1, e2, e3, e4, e5⟩ := o2
      obtain rfl := Option.some.inj (ho.symm.trans e1)
      have dp := dep_of' e5 hdep
      have V1 : a.tmps.getD 55 undef = .bool false := hI.val 1 55 (by decide) rfl (dp 1 (by decide))
      refine wpOp_value (v := .bool false) (w' := w) ho e4 (by simp [execOp, e3, ev, evc, V1]) (by rw [e2]; exact go rfl (Below.refl _ _) rfl)
    · obtain ⟨o', e1, e2, e3, e4, e5⟩ := o3
      obtain rfl := Option.some.inj (ho.symm.trans e1)
      have dp := dep_of' e5 hdep
      have V2 : a.tmps.getD 56 undef = .bool false := hI.val 2 56 (by decide) rfl (dp 2 (by decide))
      obtain ⟨og, g1, g2, -, -, -⟩ := o2
      refine wpOp_value_f (v := MV) (w' := w) ho e4 g1 g2 (by rw [hI.size]; exact Nat.lt_of_lt_of_le (by decide) hs) V2 (by simp [execOp, e3, ev, evc, kp 3 (by decide), ha, l24 w hw]) (by rw [e2]; exact go rfl (Below.refl _ _) rfl)
    · obtain ⟨o', e1, e2, e3, e4, e5⟩ := o4
      obtain rfl := Option.some.inj (ho.symm.trans e1)
      have dp := dep_of' e5 hdep
      have V2 : a.tmps.getD 56 undef = .bool false := hI.val 2 56 (by decide) rfl (dp 2 (by decide))
      have V3 : a.tmps.getD 57 undef = MV := hI.val 3 57 (by decide) rfl (dp 3 (by decide))
      obtain ⟨og, g1, g2, -, -, -⟩ := o2
      refine wpOp_call_f (f := 8) (args := #[MV]) ho e4 g1 g2 (by rw [hI.size]; exact Nat.lt_of_lt_of_le (by decide) hs) V2 (by simp [execOp, e3, resolve, invoke, Deferred.ofValue, r8, ev, evf, evc, V3]) ((k9 w hw).mono ?_)
      rintro e W' ⟨L', Y', rfl, ha', hbw⟩
      refine ⟨_, rfl, ?_⟩
      rw [e2]
      exact go rfl hbw ⟨L', Y', rfl, ha'⟩
    · obtain ⟨o', e1, e2, e3, e4, e5⟩ := o5
      obtain rfl := Option.some.inj (ho.symm.trans e1)
      have dp := dep_of' e5 hdep
      have V2 : a.tmps.getD 56 undef = .bool false := hI.val 2 56 (by decide) rfl (dp 2 (by decide))
      obtain ⟨og, g1, g2, -, -, -⟩ := o2
      refine wpOp_value_f (v := CV) (w' := w) ho e4 g1 g2 (by rw [hI.size]; exact Nat.lt_of_lt_of_le (by decide) hs) V2 (by simp [execOp, e3, ev, evc, kp 5 (by decide), hc, l26 w hw]) (by rw [e2]; exact go rfl (Below.refl _ _) rfl)
    · obtain ⟨o', e1, e2, e3, e4, e5⟩ := o6
      obtain rfl := Option.some.inj (ho.symm.trans e1)
      have dp := dep_of' e5 hdep
      have V2 : a.tmps.getD 56 undef = .bool false := hI.val 2 56 (by decide) rfl (dp 2 (by decide))
      obtain ⟨L4, Y4, V4, ad4⟩ : ∃ (L : SL) (Y : Nat → Nat → SL), a.tmps.getD 58 undef = .agg #[.int .i64 R, .int .i64 S, .slice L.a L.n L.c] ∧ AdAt w L Y m := hI.val 4 58 (by decide) rfl (dp 4 (by decide))
      have V5 : a.tmps.getD 59 undef = CV := hI.val 5 59 (by decide) rfl (dp 5 (by decide))
      obtain ⟨og, g1, g2, -, -, -⟩ := o2
      refine wpOp_call_f (f := 10) (args := #[.agg #[.int .i64 R, .int .i64 S, .slice L4.a L4.n L4.c], CV]) ho e4 g1 g2 (by rw [hI.size]; exact Nat.lt_of_lt_of_le (by decide) hs) V2 (by simp [execOp, e3, resolve, invoke, Deferred.ofValue, r10, ev, evf, evc, V4, V5]) ((k12 w L4 Y4 hw ad4).mono ?_)
      rintro e W' ⟨rfl, hbw⟩
      refine ⟨_, rfl, ?_⟩
      rw [e2]
      exact go rfl hbw rfl
    · obtain ⟨o', e1, e2, e3, e4, e5⟩ := o7
      obtain rfl := Option.some.inj (ho.symm.trans e1)
      have dp := dep_of' e5 hdep
      have V2 : a.tmps.getD 56 undef = .bool false := hI.val 2 56 (by decide) rfl (dp 2 (by decide))
      have V6 : a.tmps.getD 60 undef = .int .i64 Z := hI.val 6 60 (by decide) rfl (dp 6 (by decide))
      obtain ⟨og, g1, g2, -, -, -⟩ := o2
      refine wpOp_value_f (v := .bool B) (w' := w) ho e4 g1 g2 (by rw [hI.size]; exact Nat.lt_of_lt_of_le (by decide) hs) V2 (by simp [execOp, e3, ev, evc, V6, run_eqlB hB, eqGuard]) (by rw [e2]; exact go rfl (Below.refl _ _) rfl)
    · obtain ⟨o', e1, e2, e3, e4, e5⟩ := o8
      obtain rfl := Option.some.inj (ho.symm.trans e1)
      have dp := dep_of' e5 hdep
      have V2 : a.tmps.getD 56 undef = .bool false := hI.val 2 56 (by decide) rfl (dp 2 (by decide))
      obtain ⟨og, g1, g2, -, -, -⟩ := o2
      refine wpOp_value_f (v := .bool B) (w' := w) ho e4 g1 g2 (by rw [hI.size]; exact Nat.lt_of_lt_of_le (by decide) hs) V2 (by simp [execOp, e3, ev, evc, kp 7 (by decide), h7]) (by rw [e2]; exact go rfl (Below.refl _ _) rfl)
    · obtain ⟨o', e1, e2, e3, e4, e5⟩ := o9
      obtain rfl := Option.some.inj (ho.symm.trans e1)
      have dp := dep_of' e5 hdep
      have V2 : a.tmps.getD 56 undef = .bool false := hI.val 2 56 (by decide) rfl (dp 2 (by decide))
      have V7 : a.tmps.getD 61 undef = .bool B := hI.val 7 61 (by decide) rfl (dp 7 (by decide))
      have V8 : a.tmps.getD 62 undef = .bool B := hI.val 8 62 (by decide) rfl (dp 8 (by decide))
      obtain ⟨og, g1, g2, -, -, -⟩ := o2
      refine wpOp_value_f (v := .bool false) (w' := w) ho e4 g1 g2 (by rw [hI.size]; exact Nat.lt_of_lt_of_le (by decide) hs) V2 (by simp [execOp, e3, ev, evc, V7, V8, run_neqB, eqGuard]) (by rw [e2]; exact go rfl (Below.refl _ _) rfl)
    · obtain ⟨o', e1, e2, e3, e4, e5⟩ := o10
      obtain rfl := Option.some.inj (ho.symm.trans e1)
      have dp := dep_of' e5 hdep
      have V2 : a.tmps.getD 56 undef = .bool false := hI.val 2 56 (by decide) rfl (dp 2 (by decide))
      have V9 : a.tmps.getD 63 undef = .bool false := hI.val 9 63 (by decide) rfl (dp 9 (by decide))
      refine wpOp_value (v := .bool false) (w' := w) ho e4 (by simp [execOp, e3, ev, evc, V2, V9, asBool]) (by rw [e2]; exact go rfl (Below.refl _ _) rfl)
  · intro l a w hall hI
    have all : ∀ j, j < 11 → l j = true := fun j hj => hall j (by rw [hsz]; exact hj)
    exact fin a w hI.size hI.defers hI.kept hI.world (fun i d hi hD => hI.val i d hi hD (all i hi))

end Go.Proofs.Ytbmlafgolmmekab
