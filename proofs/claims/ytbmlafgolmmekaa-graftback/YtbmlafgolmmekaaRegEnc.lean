/- The region of the document's Encode that draws its order. -/
import Derived.Test.YtbmlafgolmmekaaRows
import Derived.Test.YtbmlafgolmmekaaView
import Derived.Test.YtbmlafgolmmekaaOwn
import Derived.Test.YtbmlafgolmmekaaCfg
import Derived.Test.YtbmlafgolmmekaaCfgs
import Derived.Test.YtbmlafgolmmekaaCfgRef
import Derived.Test.YtbmlafgolmmekaaHeld
import Derived.Test.YtbmlafgolmmekaaReader
import Derived.Test.YtbmlafgolmmekaaSls
import Derived.Test.YtbmlafgolmmekaaSteps
import Derived.Test.YtbmlafgolmmekaaInv
import Derived.Test.YtbmlafgolmmekaaTyped
import Derived.Test.YtbmlafgolmmekaaAds
import Derived.Test.YtbmlafgolmmekaaRanges
import Derived.Test.YtbmlafgolmmekaaPush
import Derived.Test.YtbmlafgolmmekaaRegs
import Derived.WalkKit
import Derived.ProofKit
import Derived.OpenShut
import Derived.Below
import Derived.WalkLawsBesides
import Derived.Deep.QuietTactic
import Derived.BigQuiet
import Derived.Lib.QuietBelow
import Derived.Deep.RegionHeld3
import Derived.Orders
import Derived.ArgAppend
import Derived.Maps.AppendAt
namespace Go.Proofs.Ytbmlafgolmmekaa
open Go.ChangeShapes Go.WideShapes Go.ChangeAt Go.RowKit
open Go.Sort hiding Below
set_option linter.unusedVariables false
set_option linter.unusedSimpArgs false

def renD (i : Nat) : Option Nat := match i with | 0 => some 13 | 1 => some 14 | 2 => some 15 | 3 => some 16 | 4 => some 17 | 5 => some 18 | 6 => some 19 | 7 => some 20 | 8 => some 21 | 9 => some 22 | 10 => some 23 | 11 => some 24 | 12 => some 25 | 13 => some 26 | 14 => some 4 | 15 => some 5 | _ => none
theorem renD_inj : ∀ i, i < 16 → ∀ j, j < 16 → renD i = renD j → renD i ≠ none → i = j := by decide
theorem renD_lt : ∀ i, i < 16 → ∀ d, renD i = some d → d < 27 := by
  intro i hi d h
  have : ∀ i, i < 16 → (renD i).all (fun d => decide (d < 27)) = true := by decide
  have := this i hi
  rw [h] at this
  simpa using this
def renF (ab : Nat) (R S : Int) (SR SS SW SE : ByteArray) (MV CV : Value) (zs : List Int) (i : Nat) (q : Value) (w : World) : Prop := match i with
  | 0 => q = .pointer (some ⟨ab, 0, none⟩)
  | 1 => q = .int .i64 R
  | 2 => q = .string SR
  | 3 => q = .string ((⟨#[71, 82]⟩ : ByteArray) ++ SR)
  | 4 => q = .pointer (some ⟨ab, 1, none⟩)
  | 5 => q = .int .i64 S
  | 6 => q = .string SS
  | 7 => q = .string ((⟨#[71, 82]⟩ : ByteArray) ++ SR ++ SS)
  | 8 => q = MV
  | 9 => q = CV
  | 10 => ∃ s : SL, q = .slice s.a s.n s.c ∧ IsS w s zs
  | 11 => q = .string SW
  | 12 => q = .string ((⟨#[71, 82]⟩ : ByteArray) ++ SR ++ SS ++ SW)
  | 13 => q = .string SE
  | 14 => q = .string SE
  | 15 => q = .int .i64 0
  | _ => True
theorem renF_below {ab : Nat} {R S : Int} {SR SS SW SE : ByteArray} {MV CV : Value} {zs : List Int} {i : Nat} {q : Value} {w w' : World} (h : renF ab R S SR SS SW SE MV CV zs i q w) (hb : Below w.heap.size w w') : renF ab R S SR SS SW SE MV CV zs i q w' := by
  unfold renF at h ⊢
  split
  · exact h
  · exact h
  · exact h
  · exact h
  · exact h
  · exact h
  · exact h
  · exact h
  · exact h
  · exact h
  · obtain ⟨s, f1, f2⟩ := h
    exact ⟨s, f1, f2.below hb⟩
  · exact h
  · exact h
  · exact h
  · exact h
  · exact h
  · trivial

set_option maxHeartbeats 4000000 in
theorem ren_region {id : Nat} {ops : Array Oper} {Q : Exit → Act → World → Prop} {a0 : Act} {w0 : World} (ab : Nat) (R S : Int) (SR SS SW SE : ByteArray) (MV CV : Value) (zs : List Int) (hlow : lowB ops = true) (hsz : ops.size = 16)
    (o0 : OpIn ops 0 (some 13) (.fieldAddr 24 (.tmp 2) 0) none []) (o1 : OpIn ops 1 (some 14) (.load 3 (.tmp 13)) none [0]) (o2 : OpIn ops 2 (some 15) (.call { callee := .value (.func 30), args := #[.tmp 14], argTypes := #[3] }) none [1]) (o3 : OpIn ops 3 (some 16) (.binOp .add 9 (.const (.string ⟨#[71, 82]⟩)) (.tmp 15) 9) none [2]) (o4 : OpIn ops 4 (some 17) (.fieldAddr 24 (.tmp 2) 1) none []) (o5 : OpIn ops 5 (some 18) (.load 3 (.tmp 17)) none [4]) (o6 : OpIn ops 6 (some 19) (.call { callee := .value (.func 30), args := #[.tmp 18], argTypes := #[3] }) none [5]) (o7 : OpIn ops 7 (some 20) (.binOp .add 9 (.tmp 16) (.tmp 19) 9) none [3, 6]) (o8 : OpIn ops 8 (some 21) (.load 24 (.tmp 2)) none []) (o9 : OpIn ops 9 (some 22) (.load 26 (.tmp 3)) none []) (o10 : OpIn ops 10 (some 23) (.call { callee := .value (.func 16), args := #[.tmp 21, .tmp 22], argTypes := #[24, 26] }) none [8, 9]) (o11 : OpIn ops 11 (some 24) (.call { callee := .value (.func 31), args := #[.tmp 23], argTypes := #[33] }) none [10]) (o12 : OpIn ops 12 (some 25) (.binOp .add 9 (.tmp 20) (.tmp 24) 9) none [7, 11]) (o13 : OpIn ops 13 (some 26) (.call { callee := .value (.func 29), args := #[.tmp 25], argTypes := #[9] }) none [12]) (o14 : OpIn ops 14 (some 4) (.assign (.tmp 26)) none [13]) (o15 : OpIn ops 15 (some 5) (.assign (.const (.int .i64 0))) none [])
    (cb : Nat) (ha : a0.tmps.getD 2 undef = .pointer (some ⟨ab, 0, none⟩)) (hc : a0.tmps.getD 3 undef = .pointer (some ⟨cb, 0, none⟩)) (hR : ∀ W, Below w0.heap.size w0 W → W.cell? ⟨ab, 0, none⟩ = some (.int .i64 R)) (hS : ∀ W, Below w0.heap.size w0 W → W.cell? ⟨ab, 1, none⟩ = some (.int .i64 S)) (zR : SR.size = 2) (zS : SS.size = 2) (zW : SW.size ≤ 100000)
    (l24 : ∀ W, Below w0.heap.size w0 W → (Instr.loadAt 24 (.pointer (some ⟨ab, 0, none⟩))).run Try.prog W = .ok MV W) (l26 : ∀ W, Below w0.heap.size w0 W → (Instr.loadAt 26 (.pointer (some ⟨cb, 0, none⟩))).run Try.prog W = .ok CV W)
    (kR : ∀ W, Calls Try.prog 30 #[.int .i64 R] W fun e W' => e = .returned (.string SR) ∧ Below W.heap.size W W') (kS : ∀ W, Calls Try.prog 30 #[.int .i64 S] W fun e W' => e = .returned (.string SS) ∧ Below W.heap.size W W')
    (k16 : ∀ W, Below w0.heap.size w0 W → Calls Try.prog 16 #[MV, CV] W fun e W' => ∃ s : SL, e = .returned (.slice s.a s.n s.c) ∧ IsS W' s zs ∧ Below W.heap.size W W') (k31 : ∀ W (s : SL), IsS W s zs → Calls Try.prog 31 #[.slice s.a s.n s.c] W fun e W' => e = .returned (.string SW) ∧ Below W.heap.size W W')
    (k29 : ∀ W, Calls Try.prog 29 #[.string ((⟨#[71, 82]⟩ : ByteArray) ++ SR ++ SS ++ SW)] W fun e W' => e = .returned (.string SE) ∧ Below W.heap.size W W')
    (hs : 27 ≤ a0.tmps.size)
    (fin : ∀ a w, a.tmps.size = a0.tmps.size → a.defers = a0.defers → (∀ s, (∀ i, i < 16 → renD i ≠ some s) → a.tmps.getD s undef = a0.tmps.getD s undef) → Below w0.heap.size w0 w → (∀ i d, i < 16 → renD i = some d → renF ab R S SR SS SW SE MV CV zs i (a.tmps.getD d undef) w) → Q .normal a w) : (Code.region id ops true).wp Try.prog Q a0 w0 := by
  have r16 : ∀ args w, (callFunc 16 args).run Try.prog w = .ok (.enter 16 args) w := enters Try.func16 (by kernel_rfl) rfl
  have r29 : ∀ args w, (callFunc 29 args).run Try.prog w = .ok (.enter 29 args) w := enters Try.func29 (by kernel_rfl) rfl
  have r30 : ∀ args w, (callFunc 30 args).run Try.prog w = .ok (.enter 30 args) w := enters Try.func30 (by kernel_rfl) rfl
  have r31 : ∀ args w, (callFunc 31 args).run Try.prog w = .ok (.enter 31 args) w := enters Try.func31 (by kernel_rfl) rfl
  refine wp_region_inv2 (by kernel_rfl) hlow (Inv 16 renD a0 (fun _ _ w => Below w0.heap.size w0 w) (fun _ => renF ab R S SR SS SW SE MV CV zs)) (Inv.start ⟨rfl, rfl, rfl, Nat.le_refl _, fun _ _ => rfl⟩) ?_ ?_
  · intro l i o a w ho hl hcl hdep hI
    have hi : i < 16 := by rw [← hsz]; exact (Array.getElem?_eq_some_iff.1 ho).1
    have ev : ∀ (s : Nat), a.eval (.tmp s) = a.tmps.getD s undef := fun _ => rfl
    have evf : ∀ f, a.eval (.func f) = .func (.func f) #[] #[] := fun _ => rfl
    have evc : ∀ c : Value, a.eval (.const c) = c := fun _ => rfl
    have inj : ∀ d, renD i = some d → ∀ j d', j < 16 → renD j = some d' → j ≠ i → d' ≠ d := fun d hd j d' hj hd' hne e => hne (renD_inj j hj i hi (by rw [hd', hd, e]) (by rw [hd']; simp))
    have kp : ∀ s, (∀ i, i < 16 → renD i ≠ some s) → a.tmps.getD s undef = a0.tmps.getD s undef := hI.kept
    have oth : ∀ j, j ≠ i → (l j || j == i) = l j := fun j hj => by rw [show (j == i) = false by simp [hj], Bool.or_false]
    have get : ∀ (d : Nat) (v : Value) (s : Nat), d < 27 → s ≠ d → (a.put (some d) v).tmps.getD s undef = a.tmps.getD s undef := fun d v s hd hs' => by
      rw [get_put a d v s (by rw [hI.size]; exact Nat.lt_of_lt_of_le hd hs), if_neg hs']
    have hw : Below w0.heap.size w0 w := hI.world
    have go : ∀ {d : Nat} {v : Value} {w' : World}, renD i = some d → Below w.heap.size w w' → renF ab R S SR SS SW SE MV CV zs i v w' → Inv 16 renD a0 (fun _ _ w => Below w0.heap.size w0 w) (fun _ => renF ab R S SR SS SW SE MV CV zs) (fun j => l j || j == i) (a.put (some d) v) w' := by
      intro d v w' hD hb hF
      exact hI.put hi hD (Nat.lt_of_lt_of_le (renD_lt i hi d hD) hs) (inj d hD) (below_then hw hb) hF (fun j u _ _ _ hf => renF_below hf hb)
    rcases (show i = 0 ∨ i = 1 ∨ i = 2 ∨ i = 3 ∨ i = 4 ∨ i = 5 ∨ i = 6 ∨ i = 7 ∨ i = 8 ∨ i = 9 ∨ i = 10 ∨ i = 11 ∨ i = 12 ∨ i = 13 ∨ i = 14 ∨ i = 15 by omega) with rfl | rfl | rfl | rfl | rfl | rfl | rfl | rfl | rfl | rfl | rfl | rfl | rfl | rfl | rfl | rfl
    · obtain ⟨o', e1, e2, e3, e4, e5⟩ := o0
      obtain rfl := Option.some.inj (ho.symm.trans e1)
      have dp := dep_of' e5 hdep
      refine wpOp_value (v := .pointer (some ⟨ab, 0, none⟩)) (w' := w) ho e4 (by simp [execOp, e3, ev, evc, kp 2 (by decide), ha, run_ad0]) (by rw [e2]; exact go rfl (Below.refl _ _) rfl)
    · obtain ⟨o', e1, e2, e3, e4, e5⟩ := o1
      obtain rfl := Option.some.inj (ho.symm.trans e1)
      have dp := dep_of' e5 hdep
      have V0 : a.tmps.getD 13 undef = .pointer (some ⟨ab, 0, none⟩) := hI.val 0 13 (by decide) rfl (dp 0 (by decide))
      refine wpOp_value (v := .int .i64 R) (w' := w) ho e4 (by simp [execOp, e3, ev, evc, V0, run_load3 (hR w hw)]) (by rw [e2]; exact go rfl (Below.refl _ _) rfl)
    · obtain ⟨o', e1, e2, e3, e4, e5⟩ := o2
      obtain rfl := Option.some.inj (ho.symm.trans e1)
      have dp := dep_of' e5 hdep
      have V1 : a.tmps.getD 14 undef = .int .i64 R := hI.val 1 14 (by decide) rfl (dp 1 (by decide))
      refine wpOp_call (f := 30) (args := #[.int .i64 R]) ho e4 (by simp [execOp, e3, resolve, invoke, Deferred.ofValue, r30, ev, evf, evc, V1]) ((kR w).mono ?_)
      rintro e W' ⟨rfl, hbw⟩
      refine ⟨_, rfl, ?_⟩
      rw [e2]
      exact go rfl hbw rfl
    · obtain ⟨o', e1, e2, e3, e4, e5⟩ := o3
      obtain rfl := Option.some.inj (ho.symm.trans e1)
      have dp := dep_of' e5 hdep
      have V2 : a.tmps.getD 15 undef = .string SR := hI.val 2 15 (by decide) rfl (dp 2 (by decide))
      refine wpOp_value (v := .string ((⟨#[71, 82]⟩ : ByteArray) ++ SR)) (w' := w) ho e4 (by simp [execOp, e3, ev, evc, V2, run_cat (⟨#[71, 82]⟩ : ByteArray) SR (by have : (⟨#[71, 82]⟩ : ByteArray).size = 2 := rfl; omega), eqGuard]) (by rw [e2]; exact go rfl (Below.refl _ _) rfl)
    · obtain ⟨o', e1, e2, e3, e4, e5⟩ := o4
      obtain rfl := Option.some.inj (ho.symm.trans e1)
      have dp := dep_of' e5 hdep
      refine wpOp_value (v := .pointer (some ⟨ab, 1, none⟩)) (w' := w) ho e4 (by simp [execOp, e3, ev, evc, kp 2 (by decide), ha, run_ad1]) (by rw [e2]; exact go rfl (Below.refl _ _) rfl)
    · obtain ⟨o', e1, e2, e3, e4, e5⟩ := o5
      obtain rfl := Option.some.inj (ho.symm.trans e1)
      have dp := dep_of' e5 hdep
      have V4 : a.tmps.getD 17 undef = .pointer (some ⟨ab, 1, none⟩) := hI.val 4 17 (by decide) rfl (dp 4 (by decide))
      refine wpOp_value (v := .int .i64 S) (w' := w) ho e4 (by simp [execOp, e3, ev, evc, V4, run_load3 (hS w hw)]) (by rw [e2]; exact go rfl (Below.refl _ _) rfl)
    · obtain ⟨o', e1, e2, e3, e4, e5⟩ := o6
      obtain rfl := Option.some.inj (ho.symm.trans e1)
      have dp := dep_of' e5 hdep
      have V5 : a.tmps.getD 18 undef = .int .i64 S := hI.val 5 18 (by decide) rfl (dp 5 (by decide))
      refine wpOp_call (f := 30) (args := #[.int .i64 S]) ho e4 (by simp [execOp, e3, resolve, invoke, Deferred.ofValue, r30, ev, evf, evc, V5]) ((kS w).mono ?_)
      rintro e W' ⟨rfl, hbw⟩
      refine ⟨_, rfl, ?_⟩
      rw [e2]
      exact go rfl hbw rfl
    · obtain ⟨o', e1, e2, e3, e4, e5⟩ := o7
      obtain rfl := Option.some.inj (ho.symm.trans e1)
      have dp := dep_of' e5 hdep
      have V3 : a.tmps.getD 16 undef = .string ((⟨#[71, 82]⟩ : ByteArray) ++ SR) := hI.val 3 16 (by decide) rfl (dp 3 (by decide))
      have V6 : a.tmps.getD 19 undef = .string SS := hI.val 6 19 (by decide) rfl (dp 6 (by decide))
      refine wpOp_value (v := .string ((⟨#[71, 82]⟩ : ByteArray) ++ SR ++ SS)) (w' := w) ho e4 (by simp [execOp, e3, ev, evc, V3, V6, run_cat ((⟨#[71, 82]⟩ : ByteArray) ++ SR) SS (by have : (⟨#[71, 82]⟩ : ByteArray).size = 2 := rfl; rw [ByteArray.size_append]; omega), eqGuard]) (by rw [e2]; exact go rfl (Below.refl _ _) rfl)
    · obtain ⟨o', e1, e2, e3, e4, e5⟩ := o8
      obtain rfl := Option.some.inj (ho.symm.trans e1)
      have dp := dep_of' e5 hdep
      refine wpOp_value (v := MV) (w' := w) ho e4 (by simp [execOp, e3, ev, evc, kp 2 (by decide), ha, l24 w hw]) (by rw [e2]; exact go rfl (Below.refl _ _) rfl)
    · obtain ⟨o', e1, e2, e3, e4, e5⟩ := o9
      obtain rfl := Option.some.inj (ho.symm.trans e1)
      have dp := dep_of' e5 hdep
      refine wpOp_value (v := CV) (w' := w) ho e4 (by simp [execOp, e3, ev, evc, kp 3 (by decide), hc, l26 w hw]) (by rw [e2]; exact go rfl (Below.refl _ _) rfl)
    · obtain ⟨o', e1, e2, e3, e4, e5⟩ := o10
      obtain rfl := Option.some.inj (ho.symm.trans e1)
      have dp := dep_of' e5 hdep
      have V8 : a.tmps.getD 21 undef = MV := hI.val 8 21 (by decide) rfl (dp 8 (by decide))
      have V9 : a.tmps.getD 22 undef = CV := hI.val 9 22 (by decide) rfl (dp 9 (by decide))
      refine wpOp_call (f := 16) (args := #[MV, CV]) ho e4 (by simp [execOp, e3, resolve, invoke, Deferred.ofValue, r16, ev, evf, evc, V8, V9]) ((k16 w hw).mono ?_)
      rintro e W' ⟨s', rfl, is', hbw⟩
      refine ⟨_, rfl, ?_⟩
      rw [e2]
      exact go rfl hbw ⟨s', rfl, is'⟩
    · obtain ⟨o', e1, e2, e3, e4, e5⟩ := o11
      obtain rfl := Option.some.inj (ho.symm.trans e1)
      have dp := dep_of' e5 hdep
      obtain ⟨s10, V10, is10⟩ : ∃ s : SL, a.tmps.getD 23 undef = .slice s.a s.n s.c ∧ IsS w s zs := hI.val 10 23 (by decide) rfl (dp 10 (by decide))
      refine wpOp_call (f := 31) (args := #[.slice s10.a s10.n s10.c]) ho e4 (by simp [execOp, e3, resolve, invoke, Deferred.ofValue, r31, ev, evf, evc, V10]) ((k31 w s10 is10).mono ?_)
      rintro e W' ⟨rfl, hbw⟩
      refine ⟨_, rfl, ?_⟩
      rw [e2]
      exact go rfl hbw rfl
    · obtain ⟨o', e1, e2, e3, e4, e5⟩ := o12
      obtain rfl := Option.some.inj (ho.symm.trans e1)
      have dp := dep_of' e5 hdep
      have V7 : a.tmps.getD 20 undef = .string ((⟨#[71, 82]⟩ : ByteArray) ++ SR ++ SS) := hI.val 7 20 (by decide) rfl (dp 7 (by decide))
      have V11 : a.tmps.getD 24 undef = .string SW := hI.val 11 24 (by decide) rfl (dp 11 (by decide))
      refine wpOp_value (v := .string ((⟨#[71, 82]⟩ : ByteArray) ++ SR ++ SS ++ SW)) (w' := w) ho e4 (by simp [execOp, e3, ev, evc, V7, V11, run_cat ((⟨#[71, 82]⟩ : ByteArray) ++ SR ++ SS) SW (by have : (⟨#[71, 82]⟩ : ByteArray).size = 2 := rfl; rw [ByteArray.size_append, ByteArray.size_append]; omega), eqGuard]) (by rw [e2]; exact go rfl (Below.refl _ _) rfl)
    · obtain ⟨o', e1, e2, e3, e4, e5⟩ := o13
      obtain rfl := Option.some.inj (ho.symm.trans e1)
      have dp := dep_of' e5 hdep
      have V12 : a.tmps.getD 25 undef = .string ((⟨#[71, 82]⟩ : ByteArray) ++ SR ++ SS ++ SW) := hI.val 12 25 (by decide) rfl (dp 12 (by decide))
      refine wpOp_call (f := 29) (args := #[.string ((⟨#[71, 82]⟩ : ByteArray) ++ SR ++ SS ++ SW)]) ho e4 (by simp [execOp, e3, resolve, invoke, Deferred.ofValue, r29, ev, evf, evc, V12]) ((k29 w).mono ?_)
      rintro e W' ⟨rfl, hbw⟩
      refine ⟨_, rfl, ?_⟩
      rw [e2]
      exact go rfl hbw rfl
    · obtain ⟨o', e1, e2, e3, e4, e5⟩ := o14
      obtain rfl := Option.some.inj (ho.symm.trans e1)
      have dp := dep_of' e5 hdep
      have V13 : a.tmps.getD 26 undef = .string SE := hI.val 13 26 (by decide) rfl (dp 13 (by decide))
      refine wpOp_value (v := .string SE) (w' := w) ho e4 (by simp [execOp, e3, ev, evc, V13]) (by rw [e2]; exact go rfl (Below.refl _ _) rfl)
    · obtain ⟨o', e1, e2, e3, e4, e5⟩ := o15
      obtain rfl := Option.some.inj (ho.symm.trans e1)
      have dp := dep_of' e5 hdep
      refine wpOp_value (v := .int .i64 0) (w' := w) ho e4 (by simp [execOp, e3, ev, evc]) (by rw [e2]; exact go rfl (Below.refl _ _) rfl)
  · intro l a w hall hI
    have all : ∀ j, j < 16 → l j = true := fun j hj => hall j (by rw [hsz]; exact hj)
    exact fin a w hI.size hI.defers hI.kept hI.world (fun i d hi hD => hI.val i d hi hD (all i hi))

end Go.Proofs.Ytbmlafgolmmekaa
