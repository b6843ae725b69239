/- The region of GraftChecks that draws its order. -/
import Derived.Test.YtbmlafgolmmekaaRows
import Derived.Test.YtbmlafgolmmekaaView
import Derived.Test.YtbmlafgolmmekaaOwn
import Derived.Test.YtbmlafgolmmekaaCfg
import Derived.Test.YtbmlafgolmmekaaCfgs
import Derived.Test.YtbmlafgolmmekaaCfgRef
import Derived.Test.YtbmlafgolmmekaaHeld
import Derived.Test.YtbmlafgolmmekaaReader
import Derived.Test.YtbmlafgolmmekaaSls
import Derived.Test.YtbmlafgolmmekaaSteps
import Derived.Test.YtbmlafgolmmekaaInv
import Derived.Test.YtbmlafgolmmekaaTyped
import Derived.Test.YtbmlafgolmmekaaAds
import Derived.Test.YtbmlafgolmmekaaRanges
import Derived.Test.YtbmlafgolmmekaaPush
import Derived.Test.YtbmlafgolmmekaaRegs
import Derived.WalkKit
import Derived.ProofKit
import Derived.OpenShut
import Derived.Below
import Derived.WalkLawsBesides
import Derived.Deep.QuietTactic
import Derived.BigQuiet
import Derived.Lib.QuietBelow
import Derived.Deep.RegionHeld3
import Derived.Orders
import Derived.ArgAppend
import Derived.Maps.AppendAt
namespace Go.Proofs.Ytbmlafgolmmekaa
open Go.ChangeShapes Go.WideShapes Go.ChangeAt Go.RowKit
open Go.Sort hiding Below
set_option linter.unusedVariables false
set_option linter.unusedSimpArgs false

def chkD (i : Nat) : Option Nat := match i with | 0 => some 28 | 1 => some 29 | 2 => some 30 | 3 => some 31 | 4 => some 32 | 5 => some 33 | 6 => some 34 | 7 => some 35 | 8 => some 36 | 9 => some 37 | 10 => some 38 | 11 => some 39 | 12 => some 40 | 13 => some 41 | 14 => some 42 | 15 => some 43 | 16 => some 44 | 17 => some 45 | 18 => some 46 | 19 => some 47 | 20 => some 48 | 21 => some 49 | 22 => some 50 | 23 => some 51 | 24 => some 52 | 25 => some 53 | 26 => some 54 | 27 => some 55 | 28 => some 56 | 29 => some 57 | 30 => some 58 | 31 => some 4 | _ => none
theorem chkD_inj : ∀ i, i < 32 → ∀ j, j < 32 → chkD i = chkD j → chkD i ≠ none → i = j := by decide
theorem chkD_lt : ∀ i, i < 32 → ∀ d, chkD i = some d → d < 59 := by
  intro i hi d h
  have : ∀ i, i < 32 → (chkD i).all (fun d => decide (d < 59)) = true := by decide
  have := this i hi
  rw [h] at this
  simpa using this
def chkF (Z : Int) (SE : ByteArray) (MO MV CV : Value) (zs : List Int) (i : Nat) (q : Value) (w : World) : Prop := match i with
  | 0 => q = MO
  | 1 => q = CV
  | 2 => q = .int .i64 Z
  | 3 => q = MV
  | 4 => q = CV
  | 5 => q = .int .i64 Z
  | 6 => q = .bool true
  | 7 => q = .bool true
  | 8 => q = MO
  | 9 => q = CV
  | 10 => ∃ s : SL, q = .slice s.a s.n s.c ∧ IsS w s zs
  | 11 => q = MV
  | 12 => q = CV
  | 13 => ∃ s : SL, q = .slice s.a s.n s.c ∧ IsS w s zs
  | 14 => q = .bool true
  | 15 => q = .bool true
  | 16 => q = .bool true
  | 17 => q = .string SE
  | 18 => q = .string SE
  | 19 => q = .bool true
  | 20 => q = .bool true
  | 21 => q = .bool true
  | 22 => q = .int .i64 Z
  | 23 => q = .int .i64 Z
  | 24 => q = .bool true
  | 25 => q = .bool true
  | 26 => q = .bool true
  | 27 => q = MO
  | 28 => q = MV
  | 29 => q = .bool true
  | 30 => q = .bool true
  | 31 => q = .bool true
  | _ => True
theorem chkF_below {Z : Int} {SE : ByteArray} {MO MV CV : Value} {zs : List Int} {i : Nat} {q : Value} {w w' : World} (h : chkF Z SE MO MV CV zs i q w) (hb : Below w.heap.size w w') : chkF Z SE MO MV CV zs i q w' := by
  unfold chkF at h ⊢
  split
  · exact h
  · exact h
  · exact h
  · exact h
  · exact h
  · exact h
  · exact h
  · exact h
  · exact h
  · exact h
  · obtain ⟨s, f1, f2⟩ := h
    exact ⟨s, f1, f2.below hb⟩
  · exact h
  · exact h
  · obtain ⟨s, f1, f2⟩ := h
    exact ⟨s, f1, f2.below hb⟩
  · exact h
  · exact h
  · exact h
  · exact h
  · exact h
  · exact h
  · exact h
  · exact h
  · exact h
  · exact h
  · exact h
  · exact h
  · exact h
  · exact h
  · exact h
  · exact h
  · exact h
  · exact h
  · trivial

set_option maxHeartbeats 4000000 in
theorem chk_region {id : Nat} {ops : Array Oper} {Q : Exit → Act → World → Prop} {a0 : Act} {w0 : World} (Z : Int) (SE : ByteArray) (MO MV CV : Value) (zs : List Int) (hlow : lowB ops = true) (hsz : ops.size = 32)
    (o0 : OpIn ops 0 (some 28) (.load 24 (.tmp 5)) none []) (o1 : OpIn ops 1 (some 29) (.load 26 (.tmp 3)) none []) (o2 : OpIn ops 2 (some 30) (.call { callee := .value (.func 12), args := #[.tmp 28, .tmp 29], argTypes := #[24, 26] }) none [0, 1]) (o3 : OpIn ops 3 (some 31) (.load 24 (.tmp 2)) none []) (o4 : OpIn ops 4 (some 32) (.load 26 (.tmp 3)) none []) (o5 : OpIn ops 5 (some 33) (.call { callee := .value (.func 13), args := #[.tmp 31, .tmp 32], argTypes := #[24, 26] }) none [3, 4]) (o6 : OpIn ops 6 (some 34) (.binOp .eql 28 (.tmp 30) (.tmp 33) 28) none [2, 5]) (o7 : OpIn ops 7 (some 35) (.move (.tmp 34)) none [6]) (o8 : OpIn ops 8 (some 36) (.load 24 (.tmp 5)) (some (7, true)) [7]) (o9 : OpIn ops 9 (some 37) (.load 26 (.tmp 3)) (some (7, true)) [7]) (o10 : OpIn ops 10 (some 38) (.call { callee := .value (.func 15), args := #[.tmp 36, .tmp 37], argTypes := #[24, 26] }) (some (7, true)) [7, 8, 9]) (o11 : OpIn ops 11 (some 39) (.load 24 (.tmp 2)) (some (7, true)) [7]) (o12 : OpIn ops 12 (some 40) (.load 26 (.tmp 3)) (some (7, true)) [7]) (o13 : OpIn ops 13 (some 41) (.call { callee := .value (.func 16), args := #[.tmp 39, .tmp 40], argTypes := #[24, 26] }) (some (7, true)) [7, 11, 12]) (o14 : OpIn ops 14 (some 42) (.call { callee := .value (.func 14), args := #[.tmp 38, .tmp 41], argTypes := #[33, 33] }) (some (7, true)) [7, 10, 13]) (o15 : OpIn ops 15 (some 43) (.pick (.tmp 35) (.tmp 42) (.const (.bool false))) none [7, 14]) (o16 : OpIn ops 16 (some 44) (.move (.tmp 43)) none [15]) (o17 : OpIn ops 17 (some 45) (.move (.tmp 6)) (some (16, true)) [16]) (o18 : OpIn ops 18 (some 46) (.move (.tmp 8)) (some (16, true)) [16]) (o19 : OpIn ops 19 (some 47) (.binOp .eql 9 (.tmp 45) (.tmp 46) 9) (some (16, true)) [16, 17, 18]) (o20 : OpIn ops 20 (some 48) (.pick (.tmp 44) (.tmp 47) (.const (.bool false))) none [16, 19]) (o21 : OpIn ops 21 (some 49) (.move (.tmp 48)) none [20]) (o22 : OpIn ops 22 (some 50) (.move (.tmp 7)) (some (21, true)) [21]) (o23 : OpIn ops 23 (some 51) (.move (.tmp 9)) (some (21, true)) [21]) (o24 : OpIn ops 24 (some 52) (.binOp .eql 28 (.tmp 50) (.tmp 51) 28) (some (21, true)) [21, 22, 23]) (o25 : OpIn ops 25 (some 53) (.pick (.tmp 49) (.tmp 52) (.const (.bool false))) none [21, 24]) (o26 : OpIn ops 26 (some 54) (.move (.tmp 53)) none [25]) (o27 : OpIn ops 27 (some 55) (.load 24 (.tmp 5)) (some (26, true)) [26]) (o28 : OpIn ops 28 (some 56) (.load 24 (.tmp 2)) (some (26, true)) [26]) (o29 : OpIn ops 29 (some 57) (.call { callee := .value (.func 17), args := #[.tmp 55, .tmp 56], argTypes := #[24, 24] }) (some (26, true)) [26, 27, 28]) (o30 : OpIn ops 30 (some 58) (.pick (.tmp 54) (.tmp 57) (.const (.bool false))) none [26, 29]) (o31 : OpIn ops 31 (some 4) (.assign (.tmp 58)) none [30])
    (ab ob cb : Nat) (ha : a0.tmps.getD 2 undef = .pointer (some ⟨ab, 0, none⟩)) (hc : a0.tmps.getD 3 undef = .pointer (some ⟨cb, 0, none⟩)) (ho5 : a0.tmps.getD 5 undef = .pointer (some ⟨ob, 0, none⟩)) (h6 : a0.tmps.getD 6 undef = .string SE) (h8 : a0.tmps.getD 8 undef = .string SE) (h7 : a0.tmps.getD 7 undef = .int .i64 Z) (h9 : a0.tmps.getD 9 undef = .int .i64 Z)
    (l24 : ∀ W, Below w0.heap.size w0 W → (Instr.loadAt 24 (.pointer (some ⟨ab, 0, none⟩))).run Try.prog W = .ok MV W) (l26 : ∀ W, Below w0.heap.size w0 W → (Instr.loadAt 26 (.pointer (some ⟨cb, 0, none⟩))).run Try.prog W = .ok CV W) (lO : ∀ W, Below w0.heap.size w0 W → (Instr.loadAt 24 (.pointer (some ⟨ob, 0, none⟩))).run Try.prog W = .ok MO W)
    (k12 : ∀ W, Below w0.heap.size w0 W → Calls Try.prog 12 #[MO, CV] W fun e W' => e = .returned (.int .i64 Z) ∧ Below W.heap.size W W') (k13 : ∀ W, Below w0.heap.size w0 W → Calls Try.prog 13 #[MV, CV] W fun e W' => e = .returned (.int .i64 Z) ∧ Below W.heap.size W W')
    (k15 : ∀ W, Below w0.heap.size w0 W → Calls Try.prog 15 #[MO, CV] W fun e W' => ∃ s : SL, e = .returned (.slice s.a s.n s.c) ∧ IsS W' s zs ∧ Below W.heap.size W W') (k16 : ∀ W, Below w0.heap.size w0 W → Calls Try.prog 16 #[MV, CV] W fun e W' => ∃ s : SL, e = .returned (.slice s.a s.n s.c) ∧ IsS W' s zs ∧ Below W.heap.size W W')
    (k14 : ∀ W (s s' : SL), IsS W s zs → IsS W s' zs → Calls Try.prog 14 #[.slice s.a s.n s.c, .slice s'.a s'.n s'.c] W fun e W' => e = .returned (.bool true) ∧ Below W.heap.size W W') (k17 : ∀ W, Below w0.heap.size w0 W → Calls Try.prog 17 #[MO, MV] W fun e W' => e = .returned (.bool true) ∧ Below W.heap.size W W')
    (hs : 59 ≤ a0.tmps.size)
    (fin : ∀ a w, a.tmps.size = a0.tmps.size → a.defers = a0.defers → (∀ s, (∀ i, i < 32 → chkD i ≠ some s) → a.tmps.getD s undef = a0.tmps.getD s undef) → Below w0.heap.size w0 w → (∀ i d, i < 32 → chkD i = some d → chkF Z SE MO MV CV zs i (a.tmps.getD d undef) w) → Q .normal a w) : (Code.region id ops true).wp Try.prog Q a0 w0 := by
  have r12 : ∀ args w, (callFunc 12 args).run Try.prog w = .ok (.enter 12 args) w := enters Try.func12 (by kernel_rfl) rfl
  have r13 : ∀ args w, (callFunc 13 args).run Try.prog w = .ok (.enter 13 args) w := enters Try.func13 (by kernel_rfl) rfl
  have r14 : ∀ args w, (callFunc 14 args).run Try.prog w = .ok (.enter 14 args) w := enters Try.func14 (by kernel_rfl) rfl
  have r15 : ∀ args w, (callFunc 15 args).run Try.prog w = .ok (.enter 15 args) w := enters Try.func15 (by kernel_rfl) rfl
  have r16 : ∀ args w, (callFunc 16 args).run Try.prog w = .ok (.enter 16 args) w := enters Try.func16 (by kernel_rfl) rfl
  have r17 : ∀ args w, (callFunc 17 args).run Try.prog w = .ok (.enter 17 args) w := enters Try.func17 (by kernel_rfl) rfl
  refine wp_region_inv2 (by kernel_rfl) hlow (Inv 32 chkD a0 (fun _ _ w => Below w0.heap.size w0 w) (fun _ => chkF Z SE MO MV CV zs)) (Inv.start ⟨rfl, rfl, rfl, Nat.le_refl _, fun _ _ => rfl⟩) ?_ ?_
  · intro l i o a w ho hl hcl hdep hI
    have hi : i < 32 := by rw [← hsz]; exact (Array.getElem?_eq_some_iff.1 ho).1
    have ev : ∀ (s : Nat), a.eval (.tmp s) = a.tmps.getD s undef := fun _ => rfl
    have evf : ∀ f, a.eval (.func f) = .func (.func f) #[] #[] := fun _ => rfl
    have evc : ∀ c : Value, a.eval (.const c) = c := fun _ => rfl
    have inj : ∀ d, chkD i = some d → ∀ j d', j < 32 → chkD j = some d' → j ≠ i → d' ≠ d := fun d hd j d' hj hd' hne e => hne (chkD_inj j hj i hi (by rw [hd', hd, e]) (by rw [hd']; simp))
    have kp : ∀ s, (∀ i, i < 32 → chkD i ≠ some s) → a.tmps.getD s undef = a0.tmps.getD s undef := hI.kept
    have oth : ∀ j, j ≠ i → (l j || j == i) = l j := fun j hj => by rw [show (j == i) = false by simp [hj], Bool.or_false]
    have get : ∀ (d : Nat) (v : Value) (s : Nat), d < 59 → s ≠ d → (a.put (some d) v).tmps.getD s undef = a.tmps.getD s undef := fun d v s hd hs' => by
      rw [get_put a d v s (by rw [hI.size]; exact Nat.lt_of_lt_of_le hd hs), if_neg hs']
    have hw : Below w0.heap.size w0 w := hI.world
    have go : ∀ {d : Nat} {v : Value} {w' : World}, chkD i = some d → Below w.heap.size w w' → chkF Z SE MO MV CV zs i v w' → Inv 32 chkD a0 (fun _ _ w => Below w0.heap.size w0 w) (fun _ => chkF Z SE MO MV CV zs) (fun j => l j || j == i) (a.put (some d) v) w' := by
      intro d v w' hD hb hF
      exact hI.put hi hD (Nat.lt_of_lt_of_le (chkD_lt i hi d hD) hs) (inj d hD) (below_then hw hb) hF (fun j u _ _ _ hf => chkF_below hf hb)
    rcases (show i = 0 ∨ i = 1 ∨ i = 2 ∨ i = 3 ∨ i = 4 ∨ i = 5 ∨ i = 6 ∨ i = 7 ∨ i = 8 ∨ i = 9 ∨ i = 10 ∨ i = 11 ∨ i = 12 ∨ i = 13 ∨ i = 14 ∨ i = 15 ∨ i = 16 ∨ i = 17 ∨ i = 18 ∨ i = 19 ∨ i = 20 ∨ i = 21 ∨ i = 22 ∨ i = 23 ∨ i = 24 ∨ i = 25 ∨ i = 26 ∨ i = 27 ∨ i = 28 ∨ i = 29 ∨ i = 30 ∨ i = 31 by omega) with rfl | rfl | rfl | rfl | rfl | rfl | rfl | rfl | rfl | rfl | rfl | rfl | rfl | rfl | rfl | rfl | rfl | rfl | rfl | rfl | rfl | rfl | rfl | rfl | rfl | rfl | rfl | rfl | rfl | rfl | rfl | rfl
    · obtain ⟨o', e1, e2, e3, e4, e5⟩ := o0
      obtain rfl := Option.some.inj (ho.symm.trans e1)
      have dp := dep_of' e5 hdep
      refine wpOp_value (v := MO) (w' := w) ho e4 (by simp [execOp, e3, ev, evc, kp 5 (by decide), ho5, lO w hw]) (by rw [e2]; exact go rfl (Below.refl _ _) rfl)
    · obtain ⟨o', e1, e2, e3, e4, e5⟩ := o1
      obtain rfl := Option.some.inj (ho.symm.trans e1)
      have dp := dep_of' e5 hdep
      refine wpOp_value (v := CV) (w' := w) ho e4 (by simp [execOp, e3, ev, evc, kp 3 (by decide), hc, l26 w hw]) (by rw [e2]; exact go rfl (Below.refl _ _) rfl)
    · obtain ⟨o', e1, e2, e3, e4, e5⟩ := o2
      obtain rfl := Option.some.inj (ho.symm.trans e1)
      have dp := dep_of' e5 hdep
      have V0 : a.tmps.getD 28 undef = MO := hI.val 0 28 (by decide) rfl (dp 0 (by decide))
      have V1 : a.tmps.getD 29 undef = CV := hI.val 1 29 (by decide) rfl (dp 1 (by decide))
      refine wpOp_call (f := 12) (args := #[MO, CV]) ho e4 (by simp [execOp, e3, resolve, invoke, Deferred.ofValue, r12, ev, evf, evc, V0, V1]) ((k12 w hw).mono ?_)
      rintro e W' ⟨rfl, hbw⟩
      refine ⟨_, rfl, ?_⟩
      rw [e2]
      exact go rfl hbw rfl
    · obtain ⟨o', e1, e2, e3, e4, e5⟩ := o3
      obtain rfl := Option.some.inj (ho.symm.trans e1)
      have dp := dep_of' e5 hdep
      refine wpOp_value (v := MV) (w' := w) ho e4 (by simp [execOp, e3, ev, evc, kp 2 (by decide), ha, l24 w hw]) (by rw [e2]; exact go rfl (Below.refl _ _) rfl)
    · obtain ⟨o', e1, e2, e3, e4, e5⟩ := o4
      obtain rfl := Option.some.inj (ho.symm.trans e1)
      have dp := dep_of' e5 hdep
      refine wpOp_value (v := CV) (w' := w) ho e4 (by simp [execOp, e3, ev, evc, kp 3 (by decide), hc, l26 w hw]) (by rw [e2]; exact go rfl (Below.refl _ _) rfl)
    · obtain ⟨o', e1, e2, e3, e4, e5⟩ := o5
      obtain rfl := Option.some.inj (ho.symm.trans e1)
      have dp := dep_of' e5 hdep
      have V3 : a.tmps.getD 31 undef = MV := hI.val 3 31 (by decide) rfl (dp 3 (by decide))
      have V4 : a.tmps.getD 32 undef = CV := hI.val 4 32 (by decide) rfl (dp 4 (by decide))
      refine wpOp_call (f := 13) (args := #[MV, CV]) ho e4 (by simp [execOp, e3, resolve, invoke, Deferred.ofValue, r13, ev, evf, evc, V3, V4]) ((k13 w hw).mono ?_)
      rintro e W' ⟨rfl, hbw⟩
      refine ⟨_, rfl, ?_⟩
      rw [e2]
      exact go rfl hbw rfl
    · obtain ⟨o', e1, e2, e3, e4, e5⟩ := o6
      obtain rfl := Option.some.inj (ho.symm.trans e1)
      have dp := dep_of' e5 hdep
      have V2 : a.tmps.getD 30 undef = .int .i64 Z := hI.val 2 30 (by decide) rfl (dp 2 (by decide))
      have V5 : a.tmps.getD 33 undef = .int .i64 Z := hI.val 5 33 (by decide) rfl (dp 5 (by decide))
      refine wpOp_value (v := .bool true) (w' := w) ho e4 (by simp [execOp, e3, ev, evc, V2, V5, run_eql28, eqGuard]) (by rw [e2]; exact go rfl (Below.refl _ _) rfl)
    · obtain ⟨o', e1, e2, e3, e4, e5⟩ := o7
      obtain rfl := Option.some.inj (ho.symm.trans e1)
      have dp := dep_of' e5 hdep
      have V6 : a.tmps.getD 34 undef = .bool true := hI.val 6 34 (by decide) rfl (dp 6 (by decide))
      refine wpOp_value (v := .bool true) (w' := w) ho e4 (by simp [execOp, e3, ev, evc, V6]) (by rw [e2]; exact go rfl (Below.refl _ _) rfl)
    · obtain ⟨o', e1, e2, e3, e4, e5⟩ := o8
      obtain rfl := Option.some.inj (ho.symm.trans e1)
      have dp := dep_of' e5 hdep
      have V7 : a.tmps.getD 35 undef = .bool true := hI.val 7 35 (by decide) rfl (dp 7 (by decide))
      obtain ⟨og, g1, g2, -, -, -⟩ := o7
      refine wpOp_value_g (v := MO) (w' := w) ho e4 g1 g2 (by rw [hI.size]; exact Nat.lt_of_lt_of_le (by decide) hs) V7 (by simp [execOp, e3, ev, evc, kp 5 (by decide), ho5, lO w hw]) (by rw [e2]; exact go rfl (Below.refl _ _) rfl)
    · obtain ⟨o', e1, e2, e3, e4, e5⟩ := o9
      obtain rfl := Option.some.inj (ho.symm.trans e1)
      have dp := dep_of' e5 hdep
      have V7 : a.tmps.getD 35 undef = .bool true := hI.val 7 35 (by decide) rfl (dp 7 (by decide))
      obtain ⟨og, g1, g2, -, -, -⟩ := o7
      refine wpOp_value_g (v := CV) (w' := w) ho e4 g1 g2 (by rw [hI.size]; exact Nat.lt_of_lt_of_le (by decide) hs) V7 (by simp [execOp, e3, ev, evc, kp 3 (by decide), hc, l26 w hw]) (by rw [e2]; exact go rfl (Below.refl _ _) rfl)
    · obtain ⟨o', e1, e2, e3, e4, e5⟩ := o10
      obtain rfl := Option.some.inj (ho.symm.trans e1)
      have dp := dep_of' e5 hdep
      have V7 : a.tmps.getD 35 undef = .bool true := hI.val 7 35 (by decide) rfl (dp 7 (by decide))
      have V8 : a.tmps.getD 36 undef = MO := hI.val 8 36 (by decide) rfl (dp 8 (by decide))
      have V9 : a.tmps.getD 37 undef = CV := hI.val 9 37 (by decide) rfl (dp 9 (by decide))
      obtain ⟨og, g1, g2, -, -, -⟩ := o7
      refine wpOp_call_g (f := 15) (args := #[MO, CV]) ho e4 g1 g2 (by rw [hI.size]; exact Nat.lt_of_lt_of_le (by decide) hs) V7 (by simp [execOp, e3, resolve, invoke, Deferred.ofValue, r15, ev, evf, evc, V8, V9]) ((k15 w hw).mono ?_)
      rintro e W' ⟨s', rfl, is', hbw⟩
      refine ⟨_, rfl, ?_⟩
      rw [e2]
      exact go rfl hbw ⟨s', rfl, is'⟩
    · obtain ⟨o', e1, e2, e3, e4, e5⟩ := o11
      obtain rfl := Option.some.inj (ho.symm.trans e1)
      have dp := dep_of' e5 hdep
      have V7 : a.tmps.getD 35 undef = .bool true := hI.val 7 35 (by decide) rfl (dp 7 (by decide))
      obtain ⟨og, g1, g2, -, -, -⟩ := o7
      refine wpOp_value_g (v := MV) (w' := w) ho e4 g1 g2 (by rw [hI.size]; exact Nat.lt_of_lt_of_le (by decide) hs) V7 (by simp [execOp, e3, ev, evc, kp 2 (by decide), ha, l24 w hw]) (by rw [e2]; exact go rfl (Below.refl _ _) rfl)
    · obtain ⟨o', e1, e2, e3, e4, e5⟩ := o12
      obtain rfl := Option.some.inj (ho.symm.trans e1)
      have dp := dep_of' e5 hdep
      have V7 : a.tmps.getD 35 undef = .bool true := hI.val 7 35 (by decide) rfl (dp 7 (by decide))
      obtain ⟨og, g1, g2, -, -, -⟩ := o7
      refine wpOp_value_g (v := CV) (w' := w) ho e4 g1 g2 (by rw [hI.size]; exact Nat.lt_of_lt_of_le (by decide) hs) V7 (by simp [execOp, e3, ev, evc, kp 3 (by decide), hc, l26 w hw]) (by rw [e2]; exact go rfl (Below.refl _ _) rfl)
    · obtain ⟨o', e1, e2, e3, e4, e5⟩ := o13
      obtain rfl := Option.some.inj (ho.symm.trans e1)
      have dp := dep_of' e5 hdep
      have V7 : a.tmps.getD 35 undef = .bool true := hI.val 7 35 (by decide) rfl (dp 7 (by decide))
      have V11 : a.tmps.getD 39 undef = MV := hI.val 11 39 (by decide) rfl (dp 11 (by decide))
      have V12 : a.tmps.getD 40 undef = CV := hI.val 12 40 (by decide) rfl (dp 12 (by decide))
      obtain ⟨og, g1, g2, -, -, -⟩ := o7
      refine wpOp_call_g (f := 16) (args := #[MV, CV]) ho e4 g1 g2 (by rw [hI.size]; exact Nat.lt_of_lt_of_le (by decide) hs) V7 (by simp [execOp, e3, resolve, invoke, Deferred.ofValue, r16, ev, evf, evc, V11, V12]) ((k16 w hw).mono ?_)
      rintro e W' ⟨s', rfl, is', hbw⟩
      refine ⟨_, rfl, ?_⟩
      rw [e2]
      exact go rfl hbw ⟨s', rfl, is'⟩
    · obtain ⟨o', e1, e2, e3, e4, e5⟩ := o14
      obtain rfl := Option.some.inj (ho.symm.trans e1)
      have dp := dep_of' e5 hdep
      have V7 : a.tmps.getD 35 undef = .bool true := hI.val 7 35 (by decide) rfl (dp 7 (by decide))
      obtain ⟨s10, V10, is10⟩ : ∃ s : SL, a.tmps.getD 38 undef = .slice s.a s.n s.c ∧ IsS w s zs := hI.val 10 38 (by decide) rfl (dp 10 (by decide))
      obtain ⟨s13, V13, is13⟩ : ∃ s : SL, a.tmps.getD 41 undef = .slice s.a s.n s.c ∧ IsS w s zs := hI.val 13 41 (by decide) rfl (dp 13 (by decide))
      obtain ⟨og, g1, g2, -, -, -⟩ := o7
      refine wpOp_call_g (f := 14) (args := #[.slice s10.a s10.n s10.c, .slice s13.a s13.n s13.c]) ho e4 g1 g2 (by rw [hI.size]; exact Nat.lt_of_lt_of_le (by decide) hs) V7 (by simp [execOp, e3, resolve, invoke, Deferred.ofValue, r14, ev, evf, evc, V10, V13]) ((k14 w s10 s13 is10 is13).mono ?_)
      rintro e W' ⟨rfl, hbw⟩
      refine ⟨_, rfl, ?_⟩
      rw [e2]
      exact go rfl hbw rfl
    · obtain ⟨o', e1, e2, e3, e4, e5⟩ := o15
      obtain rfl := Option.some.inj (ho.symm.trans e1)
      have dp := dep_of' e5 hdep
      have V7 : a.tmps.getD 35 undef = .bool true := hI.val 7 35 (by decide) rfl (dp 7 (by decide))
      have V14 : a.tmps.getD 42 undef = .bool true := hI.val 14 42 (by decide) rfl (dp 14 (by decide))
      refine wpOp_value (v := .bool true) (w' := w) ho e4 (by simp [execOp, e3, ev, evc, V7, V14, asBool]) (by rw [e2]; exact go rfl (Below.refl _ _) rfl)
    · obtain ⟨o', e1, e2, e3, e4, e5⟩ := o16
      obtain rfl := Option.some.inj (ho.symm.trans e1)
      have dp := dep_of' e5 hdep
      have V15 : a.tmps.getD 43 undef = .bool true := hI.val 15 43 (by decide) rfl (dp 15 (by decide))
      refine wpOp_value (v := .bool true) (w' := w) ho e4 (by simp [execOp, e3, ev, evc, V15]) (by rw [e2]; exact go rfl (Below.refl _ _) rfl)
    · obtain ⟨o', e1, e2, e3, e4, e5⟩ := o17
      obtain rfl := Option.some.inj (ho.symm.trans e1)
      have dp := dep_of' e5 hdep
      have V16 : a.tmps.getD 44 undef = .bool true := hI.val 16 44 (by decide) rfl (dp 16 (by decide))
      obtain ⟨og, g1, g2, -, -, -⟩ := o16
      refine wpOp_value_g (v := .string SE) (w' := w) ho e4 g1 g2 (by rw [hI.size]; exact Nat.lt_of_lt_of_le (by decide) hs) V16 (by simp [execOp, e3, ev, evc, kp 6 (by decide), h6]) (by rw [e2]; exact go rfl (Below.refl _ _) rfl)
    · obtain ⟨o', e1, e2, e3, e4, e5⟩ := o18
      obtain rfl := Option.some.inj (ho.symm.trans e1)
      have dp := dep_of' e5 hdep
      have V16 : a.tmps.getD 44 undef = .bool true := hI.val 16 44 (by decide) rfl (dp 16 (by decide))
      obtain ⟨og, g1, g2, -, -, -⟩ := o16
      refine wpOp_value_g (v := .string SE) (w' := w) ho e4 g1 g2 (by rw [hI.size]; exact Nat.lt_of_lt_of_le (by decide) hs) V16 (by simp [execOp, e3, ev, evc, kp 8 (by decide), h8]) (by rw [e2]; exact go rfl (Below.refl _ _) rfl)
    · obtain ⟨o', e1, e2, e3, e4, e5⟩ := o19
      obtain rfl := Option.some.inj (ho.symm.trans e1)
      have dp := dep_of' e5 hdep
      have V16 : a.tmps.getD 44 undef = .bool true := hI.val 16 44 (by decide) rfl (dp 16 (by decide))
      have V17 : a.tmps.getD 45 undef = .string SE := hI.val 17 45 (by decide) rfl (dp 17 (by decide))
      have V18 : a.tmps.getD 46 undef = .string SE := hI.val 18 46 (by decide) rfl (dp 18 (by decide))
      obtain ⟨og, g1, g2, -, -, -⟩ := o16
      refine wpOp_value_g (v := .bool true) (w' := w) ho e4 g1 g2 (by rw [hI.size]; exact Nat.lt_of_lt_of_le (by decide) hs) V16 (by simp [execOp, e3, ev, evc, V17, V18, run_eql9, eqGuard]) (by rw [e2]; exact go rfl (Below.refl _ _) rfl)
    · obtain ⟨o', e1, e2, e3, e4, e5⟩ := o20
      obtain rfl := Option.some.inj (ho.symm.trans e1)
      have dp := dep_of' e5 hdep
      have V16 : a.tmps.getD 44 undef = .bool true := hI.val 16 44 (by decide) rfl (dp 16 (by decide))
      have V19 : a.tmps.getD 47 undef = .bool true := hI.val 19 47 (by decide) rfl (dp 19 (by decide))
      refine wpOp_value (v := .bool true) (w' := w) ho e4 (by simp [execOp, e3, ev, evc, V16, V19, asBool]) (by rw [e2]; exact go rfl (Below.refl _ _) rfl)
    · obtain ⟨o', e1, e2, e3, e4, e5⟩ := o21
      obtain rfl := Option.some.inj (ho.symm.trans e1)
      have dp := dep_of' e5 hdep
      have V20 : a.tmps.getD 48 undef = .bool true := hI.val 20 48 (by decide) rfl (dp 20 (by decide))
      refine wpOp_value (v := .bool true) (w' := w) ho e4 (by simp [execOp, e3, ev, evc, V20]) (by rw [e2]; exact go rfl (Below.refl _ _) rfl)
    · obtain ⟨o', e1, e2, e3, e4, e5⟩ := o22
      obtain rfl := Option.some.inj (ho.symm.trans e1)
      have dp := dep_of' e5 hdep
      have V21 : a.tmps.getD 49 undef = .bool true := hI.val 21 49 (by decide) rfl (dp 21 (by decide))
      obtain ⟨og, g1, g2, -, -, -⟩ := o21
      refine wpOp_value_g (v := .int .i64 Z) (w' := w) ho e4 g1 g2 (by rw [hI.size]; exact Nat.lt_of_lt_of_le (by decide) hs) V21 (by simp [execOp, e3, ev, evc, kp 7 (by decide), h7]) (by rw [e2]; exact go rfl (Below.refl _ _) rfl)
    · obtain ⟨o', e1, e2, e3, e4, e5⟩ := o23
      obtain rfl := Option.some.inj (ho.symm.trans e1)
      have dp := dep_of' e5 hdep
      have V21 : a.tmps.getD 49 undef = .bool true := hI.val 21 49 (by decide) rfl (dp 21 (by decide))
      obtain ⟨og, g1, g2, -, -, -⟩ := o21
      refine wpOp_value_g (v := .int .i64 Z) (w' := w) ho e4 g1 g2 (by rw [hI.size]; exact Nat.lt_of_lt_of_le (by decide) hs) V21 (by simp [execOp, e3, ev, evc, kp 9 (by decide), h9]) (by rw [e2]; exact go rfl (Below.refl _ _) rfl)
    · obtain ⟨o', e1, e2, e3, e4, e5⟩ := o24
      obtain rfl := Option.some.inj (ho.symm.trans e1)
      have dp := dep_of' e5 hdep
      have V21 : a.tmps.getD 49 undef = .bool true := hI.val 21 49 (by decide) rfl (dp 21 (by decide))
      have V22 : a.tmps.getD 50 undef = .int .i64 Z := hI.val 22 50 (by decide) rfl (dp 22 (by decide))
      have V23 : a.tmps.getD 51 undef = .int .i64 Z := hI.val 23 51 (by decide) rfl (dp 23 (by decide))
      obtain ⟨og, g1, g2, -, -, -⟩ := o21
      refine wpOp_value_g (v := .bool true) (w' := w) ho e4 g1 g2 (by rw [hI.size]; exact Nat.lt_of_lt_of_le (by decide) hs) V21 (by simp [execOp, e3, ev, evc, V22, V23, run_eql28, eqGuard]) (by rw [e2]; exact go rfl (Below.refl _ _) rfl)
    · obtain ⟨o', e1, e2, e3, e4, e5⟩ := o25
      obtain rfl := Option.some.inj (ho.symm.trans e1)
      have dp := dep_of' e5 hdep
      have V21 : a.tmps.getD 49 undef = .bool true := hI.val 21 49 (by decide) rfl (dp 21 (by decide))
      have V24 : a.tmps.getD 52 undef = .bool true := hI.val 24 52 (by decide) rfl (dp 24 (by decide))
      refine wpOp_value (v := .bool true) (w' := w) ho e4 (by simp [execOp, e3, ev, evc, V21, V24, asBool]) (by rw [e2]; exact go rfl (Below.refl _ _) rfl)
    · obtain ⟨o', e1, e2, e3, e4, e5⟩ := o26
      obtain rfl := Option.some.inj (ho.symm.trans e1)
      have dp := dep_of' e5 hdep
      have V25 : a.tmps.getD 53 undef = .bool true := hI.val 25 53 (by decide) rfl (dp 25 (by decide))
      refine wpOp_value (v := .bool true) (w' := w) ho e4 (by simp [execOp, e3, ev, evc, V25]) (by rw [e2]; exact go rfl (Below.refl _ _) rfl)
    · obtain ⟨o', e1, e2, e3, e4, e5⟩ := o27
      obtain rfl := Option.some.inj (ho.symm.trans e1)
      have dp := dep_of' e5 hdep
      have V26 : a.tmps.getD 54 undef = .bool true := hI.val 26 54 (by decide) rfl (dp 26 (by decide))
      obtain ⟨og, g1, g2, -, -, -⟩ := o26
      refine wpOp_value_g (v := MO) (w' := w) ho e4 g1 g2 (by rw [hI.size]; exact Nat.lt_of_lt_of_le (by decide) hs) V26 (by simp [execOp, e3, ev, evc, kp 5 (by decide), ho5, lO w hw]) (by rw [e2]; exact go rfl (Below.refl _ _) rfl)
    · obtain ⟨o', e1, e2, e3, e4, e5⟩ := o28
      obtain rfl := Option.some.inj (ho.symm.trans e1)
      have dp := dep_of' e5 hdep
      have V26 : a.tmps.getD 54 undef = .bool true := hI.val 26 54 (by decide) rfl (dp 26 (by decide))
      obtain ⟨og, g1, g2, -, -, -⟩ := o26
      refine wpOp_value_g (v := MV) (w' := w) ho e4 g1 g2 (by rw [hI.size]; exact Nat.lt_of_lt_of_le (by decide) hs) V26 (by simp [execOp, e3, ev, evc, kp 2 (by decide), ha, l24 w hw]) (by rw [e2]; exact go rfl (Below.refl _ _) rfl)
    · obtain ⟨o', e1, e2, e3, e4, e5⟩ := o29
      obtain rfl := Option.some.inj (ho.symm.trans e1)
      have dp := dep_of' e5 hdep
      have V26 : a.tmps.getD 54 undef = .bool true := hI.val 26 54 (by decide) rfl (dp 26 (by decide))
      have V27 : a.tmps.getD 55 undef = MO := hI.val 27 55 (by decide) rfl (dp 27 (by decide))
      have V28 : a.tmps.getD 56 undef = MV := hI.val 28 56 (by decide) rfl (dp 28 (by decide))
      obtain ⟨og, g1, g2, -, -, -⟩ := o26
      refine wpOp_call_g (f := 17) (args := #[MO, MV]) ho e4 g1 g2 (by rw [hI.size]; exact Nat.lt_of_lt_of_le (by decide) hs) V26 (by simp [execOp, e3, resolve, invoke, Deferred.ofValue, r17, ev, evf, evc, V27, V28]) ((k17 w hw).mono ?_)
      rintro e W' ⟨rfl, hbw⟩
      refine ⟨_, rfl, ?_⟩
      rw [e2]
      exact go rfl hbw rfl
    · obtain ⟨o', e1, e2, e3, e4, e5⟩ := o30
      obtain rfl := Option.some.inj (ho.symm.trans e1)
      have dp := dep_of' e5 hdep
      have V26 : a.tmps.getD 54 undef = .bool true := hI.val 26 54 (by decide) rfl (dp 26 (by decide))
      have V29 : a.tmps.getD 57 undef = .bool true := hI.val 29 57 (by decide) rfl (dp 29 (by decide))
      refine wpOp_value (v := .bool true) (w' := w) ho e4 (by simp [execOp, e3, ev, evc, V26, V29, asBool]) (by rw [e2]; exact go rfl (Below.refl _ _) rfl)
    · obtain ⟨o', e1, e2, e3, e4, e5⟩ := o31
      obtain rfl := Option.some.inj (ho.symm.trans e1)
      have dp := dep_of' e5 hdep
      have V30 : a.tmps.getD 58 undef = .bool true := hI.val 30 58 (by decide) rfl (dp 30 (by decide))
      refine wpOp_value (v := .bool true) (w' := w) ho e4 (by simp [execOp, e3, ev, evc, V30]) (by rw [e2]; exact go rfl (Below.refl _ _) rfl)
  · intro l a w hall hI
    have all : ∀ j, j < 32 → l j = true := fun j hj => hall j (by rw [hsz]; exact hj)
    exact fin a w hI.size hI.defers hI.kept hI.world (fun i d hi hD => hI.val i d hi hD (all i hi))

end Go.Proofs.Ytbmlafgolmmekaa
