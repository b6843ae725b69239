/- The region of PagedDoes that copies the pages and releases them, on both sides. -/
import Derived.Test.YtjbocoheognneaaRows
import Derived.Test.YtjbocoheognneaaPages
import Derived.Test.YtjbocoheognneaaView
import Derived.Test.YtjbocoheognneaaOwn
import Derived.Test.YtjbocoheognneaaLeast
import Derived.Test.YtjbocoheognneaaInvIn
import Derived.Test.YtjbocoheognneaaPutReg
import Derived.Test.YtjbocoheognneaaTwice
import Derived.Test.YtjbocoheognneaaRegPl
import Derived.WalkKit
import Derived.ProofKit
import Derived.OpenShut
import Derived.Below
import Derived.WalkLawsBesides
import Derived.Deep.QuietTactic
import Derived.BigQuiet
import Derived.RangeFuncNested
import Derived.RangeFuncBox
import Derived.RangeFuncBound
import Derived.RangeFuncCalls
import Derived.RangeFuncLeaves
import Derived.Shelf.Abstract
import Derived.Shelf.RegionOpen
import Derived.OwnWalkIn
import Derived.TacticsInMore
import Derived.LoopNIn
import Derived.LoopIn
import Derived.Orders
namespace Go.Proofs.Ytjbocoheognneaa
open Go.ChangeShapes Go.WideShapes Go.ChangeAt Go.RowKit
set_option linter.unusedVariables false

set_option linter.unusedSimpArgs false

theorem run_neq25 (x y : Int) (w : World) : (binOp .neq 25 (.int .i64 x) (.int .i64 y)).run Try.prog w = .ok (.bool (x != y)) w := by go_simp

def rlD (i : Nat) : Option Nat := match i with | 0 => some 137 | 1 => some 138 | 2 => some 139 | 3 => some 140 | 4 => some 141 | 5 => some 142 | 6 => some 143 | 7 => some 144 | 8 => some 145 | 9 => some 146 | 10 => some 147 | _ => none
theorem rlD_inj : ∀ i, i < 11 → ∀ j, j < 11 → rlD i = rlD j → rlD i ≠ none → i = j := by decide
theorem rlD_lt : ∀ i, i < 11 → ∀ d, rlD i = some d → d < 148 := by
  intro i hi d h
  have : ∀ i, i < 11 → (rlD i).all (fun d => decide (d < 148)) = true := by decide
  have := this i hi
  rw [h] at this
  simpa using this
def rlF (b b' : Nat) (X : Addr) (g : Nat) (sa : Option Addr) (sn sc : Nat) (ca : Option Addr) (cn cc : Nat) (E E' : Int) (i : Nat) (q : Value) (w : World) : Prop := match i with
  | 0 => q = .pointer (some ⟨b, 0, none⟩)
  | 1 => q = .slice (some ⟨g, 0, none⟩) 0 0
  | 2 => q = .pointer (some (X.add 3))
  | 3 => q = .slice sa sn sc
  | 4 => q = .slice ca cn cc
  | 5 => q = .int .i64 E
  | 6 => q = .pointer (some ⟨b', 0, none⟩)
  | 7 => q = .pointer (some (X.add 3))
  | 8 => q = .slice sa sn sc
  | 9 => q = .int .i64 E'
  | 10 => q = .bool (E != E')
  | _ => True
def rlR (w0 W2 : World) (P1 P2 : World → Prop) (l : Nat → Bool) (w : World) : Prop := (l 1 = false → w = w0.drew) ∧ (l 1 = true → l 4 = false → w = w0.drew.alloc (.cells #[] 3)) ∧ (l 4 = true → l 5 = false → w = W2) ∧ (l 5 = true → l 9 = false → P1 w) ∧ (l 9 = true → P2 w)

set_option maxHeartbeats 8000000 in
theorem rl_region {id : Nat} {ops : Array Oper} {Q : Exit → Act → World → Prop} {a0 : Act} {w0 : World} (b b' : Nat) (X : Addr) (g : Nat) (sa : Option Addr) (sn sc : Nat) (ca : Option Addr) (cn cc : Nat) (E E' : Int) (W2 : World) (S P1 P2 : World → Prop) (hlow : lowB ops = true) (hsz : ops.size = 11)
    (o0 : OpIn ops 0 (some 137) (.move (.tmp 5)) none []) (o1 : OpIn ops 1 (some 138) (.buildSlice 32 0 #[]) none []) (o2 : OpIn ops 2 (some 139) (.fieldAddr 34 (.tmp 10) 3) none []) (o3 : OpIn ops 3 (some 140) (.load 32 (.tmp 139)) none [2]) (o4 : OpIn ops 4 (some 141) (.call { callee := .builtin .append, args := #[.tmp 138, .tmp 140], argTypes := #[32, 32] }) none [1, 3]) (o5 : OpIn ops 5 (some 142) (.call { callee := .value (.func 16), args := #[.tmp 137, .tmp 141], argTypes := #[24, 32] }) none [0, 4]) (o6 : OpIn ops 6 (some 143) (.move (.tmp 7)) none []) (o7 : OpIn ops 7 (some 144) (.fieldAddr 34 (.tmp 10) 3) none []) (o8 : OpIn ops 8 (some 145) (.load 32 (.tmp 144)) none [7]) (o9 : OpIn ops 9 (some 146) (.call { callee := .value (.func 17), args := #[.tmp 143, .tmp 145], argTypes := #[28, 32] }) none [6, 8, 5]) (o10 : OpIn ops 10 (some 147) (.binOp .neq 25 (.tmp 142) (.tmp 146) 25) none [5, 9])
    (ty : TypeId) (hty : ∀ o, ops[4]? = some o → o.type = ty)
    (hS0 : S w0.drew) (hS1 : S (w0.drew.alloc (.cells #[] 3))) (hS2 : S W2) (hSP : ∀ w, P1 w → S w)
    (h5 : a0.tmps.getD 5 undef = .pointer (some ⟨b, 0, none⟩)) (h7 : a0.tmps.getD 7 undef = .pointer (some ⟨b', 0, none⟩)) (h10 : a0.tmps.getD 10 undef = .pointer (some X)) (hg : g = w0.heap.size)
    (ld32 : ∀ w, S w → (Instr.loadAt 32 (.pointer (some (X.add 3)))).run Try.prog w = .ok (.slice sa sn sc) w)
    (hap : (Builtin.append_ #[32, 32] ty #[.slice (some ⟨g, 0, none⟩) 0 0, .slice sa sn sc]).run Try.prog (w0.drew.alloc (.cells #[] 3)) = .ok (.slice ca cn cc) W2)
    (kc : Calls Try.prog 16 #[.pointer (some ⟨b, 0, none⟩), .slice ca cn cc] W2 fun e w' => e = .returned (.int .i64 E) ∧ P1 w')
    (kd : ∀ w, P1 w → Calls Try.prog 17 #[.pointer (some ⟨b', 0, none⟩), .slice sa sn sc] w fun e w' => e = .returned (.int .i64 E') ∧ P2 w')
    (hs : 148 ≤ a0.tmps.size)
    (fin : ∀ a w, a.tmps.size = a0.tmps.size → a.defers = a0.defers → (∀ s, (∀ i, i < 11 → rlD i ≠ some s) → a.tmps.getD s undef = a0.tmps.getD s undef) → (∀ i d, i < 11 → rlD i = some d → rlF b b' X g sa sn sc ca cn cc E E' i (a.tmps.getD d undef) w) → P2 w → Q .normal a w) :
    (Code.region id ops true).wp Try.prog Q a0 w0 := by
  have r16 : ∀ args w, (callFunc 16 args).run Try.prog w = .ok (.enter 16 args) w := enters_of Try.func16 (by kernel_rfl) rfl
  have r17 : ∀ args w, (callFunc 17 args).run Try.prog w = .ok (.enter 17 args) w := enters_of Try.func17 (by kernel_rfl) rfl
  refine wp_region_inv2 (by kernel_rfl) hlow (Inv 11 rlD a0 (fun l _ w => rlR w0 W2 P1 P2 l w) (fun _ => rlF b b' X g sa sn sc ca cn cc E E')) (Inv.start ⟨fun _ => rfl, (fun h => by cases h), (fun h => by cases h), (fun h => by cases h), fun h => by cases h⟩) ?_ ?_
  · intro l i o a w ho hl hcl hdep hI
    have hi : i < 11 := by rw [← hsz]; exact (Array.getElem?_eq_some_iff.1 ho).1
    have ev : ∀ (s : Nat), a.eval (.tmp s) = a.tmps.getD s undef := fun _ => rfl
    have evf : ∀ f, a.eval (.func f) = .func (.func f) #[] #[] := fun _ => rfl
    have evc : ∀ c : Value, a.eval (.const c) = c := fun _ => rfl
    have inj : ∀ d, rlD i = some d → ∀ j d', j < 11 → rlD j = some d' → j ≠ i → d' ≠ d := fun d hd j d' hj hd' hne e => hne (rlD_inj j hj i hi (by rw [hd', hd, e]) (by rw [hd']; simp))
    have kp : ∀ s, (∀ i, i < 11 → rlD i ≠ some s) → a.tmps.getD s undef = a0.tmps.getD s undef := hI.kept
    have oth : ∀ j, j ≠ i → (l j || j == i) = l j := fun j hj => by rw [show (j == i) = false by simp [hj], Bool.or_false]
    have sam : (l i || i == i) = true := by simp
    have go : ∀ {d : Nat} {v : Value}, rlD i = some d → (i = 0 ∨ i = 2 ∨ i = 3 ∨ i = 6 ∨ i = 7 ∨ i = 8 ∨ i = 10) → rlF b b' X g sa sn sc ca cn cc E E' i v w → Inv 11 rlD a0 (fun l _ w => rlR w0 W2 P1 P2 l w) (fun _ => rlF b b' X g sa sn sc ca cn cc E E') (fun j => l j || j == i) (a.put (some d) v) w := by
      intro d v hD hi' hF
      refine hI.put hi hD (Nat.lt_of_lt_of_le (rlD_lt i hi d hD) hs) (inj d hD) ?_ hF (fun j u _ _ _ hf => hf)
      show rlR w0 W2 P1 P2 _ w
      unfold rlR
      dsimp only
      rw [oth 1 (by omega), oth 4 (by omega), oth 5 (by omega), oth 9 (by omega)]
      exact hI.world
    have hSw : l 9 = false → S w := fun hc => by
      cases e1 : l 1 with
      | false => rw [hI.world.1 e1]; exact hS0
      | true =>
        cases e2 : l 4 with
        | false => rw [hI.world.2.1 e1 e2]; exact hS1
        | true => cases e3 : l 5 with
          | false => rw [hI.world.2.2.1 e2 e3]; exact hS2
          | true => exact hSP w (hI.world.2.2.2.1 e3 hc)
    rcases (show i = 0 ∨ i = 1 ∨ i = 2 ∨ i = 3 ∨ i = 4 ∨ i = 5 ∨ i = 6 ∨ i = 7 ∨ i = 8 ∨ i = 9 ∨ i = 10 by omega) with rfl | rfl | rfl | rfl | rfl | rfl | rfl | rfl | rfl | rfl | rfl
    · obtain ⟨o', e1, e2, e3, e4, e5⟩ := o0
      obtain rfl := Option.some.inj (ho.symm.trans e1)
      have dp := dep_of' e5 hdep
      exact wpOp_value (v := .pointer (some ⟨b, 0, none⟩)) (w' := w) ho e4 (by simp [execOp, e3, ev, evc, kp 5 (by decide), h5]) (by rw [e2]; exact go rfl (by decide) rfl)
    · obtain ⟨o', e1, e2, e3, e4, e5⟩ := o1
      obtain rfl := Option.some.inj (ho.symm.trans e1)
      have dp := dep_of' e5 hdep
      have n4 : l 4 = false := by cases e : l 4 with | false => rfl | true => have := hcl.dep' o4 e 1 (by decide); rw [hl] at this; cases this
      have n5 : l 5 = false := by cases e : l 5 with | false => rfl | true => have := hcl.dep' o5 e 4 (by decide); rw [n4] at this; cases this
      have n9 : l 9 = false := by cases e : l 9 with | false => rfl | true => have := hcl.dep' o9 e 5 (by decide); rw [n5] at this; cases this
      obtain rfl := hI.world.1 hl
      refine wpOp_value (v := .slice (some ⟨g, 0, none⟩) 0 0) (w' := w0.drew.alloc (.cells #[] 3)) ho e4 (by simp [execOp, e3, run_build32, hg]) ?_
      rw [e2]
      refine hI.put hi rfl (Nat.lt_of_lt_of_le (by decide) hs) (inj 138 rfl) ?_ rfl (fun j u hj hlj hne hf => hf)
      show rlR w0 _ P1 P2 _ _
      unfold rlR
      dsimp only
      rw [sam, oth 4 (by decide), oth 5 (by decide), oth 9 (by decide)]
      exact ⟨(fun h => by cases h), fun _ _ => rfl, (fun h => by rw [n4] at h; cases h), (fun h => by rw [n5] at h; cases h), fun h => by rw [n9] at h; cases h⟩
    · obtain ⟨o', e1, e2, e3, e4, e5⟩ := o2
      obtain rfl := Option.some.inj (ho.symm.trans e1)
      have dp := dep_of' e5 hdep
      exact wpOp_value (v := .pointer (some (X.add 3))) (w' := w) ho e4 (by simp [execOp, e3, ev, evc, kp 10 (by decide), h10, run_field34 X 3 (by decide)]) (by rw [e2]; exact go rfl (by decide) rfl)
    · obtain ⟨o', e1, e2, e3, e4, e5⟩ := o3
      obtain rfl := Option.some.inj (ho.symm.trans e1)
      have dp := dep_of' e5 hdep
      have V2 : a.tmps.getD 139 undef = .pointer (some (X.add 3)) := hI.val 2 139 (by decide) rfl (dp 2 (by decide))
      have nl : l 9 = false := by
        cases e : l 9 with
        | false => rfl
        | true =>
          exfalso
          have y0 := hcl.dep' o9 e 5 (by decide)
          have y1 := hcl.dep' o5 y0 4 (by decide)
          have y2 := hcl.dep' o4 y1 3 (by decide)
          rw [hl] at y2
          cases y2
      exact wpOp_value (v := .slice sa sn sc) (w' := w) ho e4 (by simp [execOp, e3, ev, V2, ld32 w (hSw nl)]) (by rw [e2]; exact go rfl (by decide) rfl)
    · obtain ⟨o', e1, e2, e3, e4, e5⟩ := o4
      obtain rfl := Option.some.inj (ho.symm.trans e1)
      have dp := dep_of' e5 hdep
      have V1 : a.tmps.getD 138 undef = .slice (some ⟨g, 0, none⟩) 0 0 := hI.val 1 138 (by decide) rfl (dp 1 (by decide))
      have V3 : a.tmps.getD 140 undef = .slice sa sn sc := hI.val 3 140 (by decide) rfl (dp 3 (by decide))
      have n5 : l 5 = false := by cases e : l 5 with | false => rfl | true => have := hcl.dep' o5 e 4 (by decide); rw [hl] at this; cases this
      have n9 : l 9 = false := by cases e : l 9 with | false => rfl | true => have := hcl.dep' o9 e 5 (by decide); rw [n5] at this; cases this
      obtain rfl := hI.world.2.1 (dp 1 (by decide)) hl
      have hap' := hap
      rw [← hty _ ho] at hap'
      refine wpOp_value (v := .slice ca cn cc) (w' := W2) ho e4 (by simp only [execOp, e3, resolve, invoke, builtin, Sem.run_bind, Sem.run_pure, Result.andThen_ok, List.map_toArray, List.map_cons, List.map_nil, ev, V1, V3, hap']) ?_
      rw [e2]
      refine hI.put hi rfl (Nat.lt_of_lt_of_le (by decide) hs) (inj 141 rfl) ?_ rfl (fun j u hj hlj hne hf => hf)
      show rlR w0 _ P1 P2 _ _
      unfold rlR
      dsimp only
      rw [sam, oth 1 (by decide), oth 5 (by decide), oth 9 (by decide)]
      exact ⟨(fun h => by rw [dp 1 (by decide)] at h; cases h), (fun _ h => by cases h), fun _ _ => rfl, (fun h => by rw [n5] at h; cases h), fun h => by rw [n9] at h; cases h⟩
    · obtain ⟨o', e1, e2, e3, e4, e5⟩ := o5
      obtain rfl := Option.some.inj (ho.symm.trans e1)
      have dp := dep_of' e5 hdep
      have V0 : a.tmps.getD 137 undef = .pointer (some ⟨b, 0, none⟩) := hI.val 0 137 (by decide) rfl (dp 0 (by decide))
      have V4 : a.tmps.getD 141 undef = .slice ca cn cc := hI.val 4 141 (by decide) rfl (dp 4 (by decide))
      have n9 : l 9 = false := by cases e : l 9 with | false => rfl | true => have := hcl.dep' o9 e 5 (by decide); rw [hl] at this; cases this
      obtain rfl := hI.world.2.2.1 (dp 4 (by decide)) hl
      refine wpOp_call (f := 16) (args := #[.pointer (some ⟨b, 0, none⟩), .slice ca cn cc]) ho e4 (by simp [execOp, e3, resolve, invoke, Deferred.ofValue, r16, ev, evf, evc, V0, V4]) (kc.mono ?_)
      rintro e W' ⟨rfl, hp⟩
      refine ⟨_, rfl, ?_⟩
      rw [e2]
      refine hI.put hi rfl (Nat.lt_of_lt_of_le (by decide) hs) (inj 142 rfl) ?_ rfl (fun j u hj hlj hne hf => hf)
      show rlR w0 _ P1 P2 _ _
      unfold rlR
      dsimp only
      rw [sam, oth 1 (by decide), oth 4 (by decide), oth 9 (by decide)]
      exact ⟨(fun h => by rw [hcl.dep' o4 (dp 4 (by decide)) 1 (by decide)] at h; cases h), (fun _ h => by rw [dp 4 (by decide)] at h; cases h), (fun _ h => by cases h), (fun _ _ => hp), fun h => by rw [n9] at h; cases h⟩
    · obtain ⟨o', e1, e2, e3, e4, e5⟩ := o6
      obtain rfl := Option.some.inj (ho.symm.trans e1)
      have dp := dep_of' e5 hdep
      exact wpOp_value (v := .pointer (some ⟨b', 0, none⟩)) (w' := w) ho e4 (by simp [execOp, e3, ev, evc, kp 7 (by decide), h7]) (by rw [e2]; exact go rfl (by decide) rfl)
    · obtain ⟨o', e1, e2, e3, e4, e5⟩ := o7
      obtain rfl := Option.some.inj (ho.symm.trans e1)
      have dp := dep_of' e5 hdep
      exact wpOp_value (v := .pointer (some (X.add 3))) (w' := w) ho e4 (by simp [execOp, e3, ev, evc, kp 10 (by decide), h10, run_field34 X 3 (by decide)]) (by rw [e2]; exact go rfl (by decide) rfl)
    · obtain ⟨o', e1, e2, e3, e4, e5⟩ := o8
      obtain rfl := Option.some.inj (ho.symm.trans e1)
      have dp := dep_of' e5 hdep
      have V7 : a.tmps.getD 144 undef = .pointer (some (X.add 3)) := hI.val 7 144 (by decide) rfl (dp 7 (by decide))
      have nl : l 9 = false := by
        cases e : l 9 with
        | false => rfl
        | true =>
          exfalso
          have y0 := hcl.dep' o9 e 8 (by decide)
          rw [hl] at y0
          cases y0
      exact wpOp_value (v := .slice sa sn sc) (w' := w) ho e4 (by simp [execOp, e3, ev, V7, ld32 w (hSw nl)]) (by rw [e2]; exact go rfl (by decide) rfl)
    · obtain ⟨o', e1, e2, e3, e4, e5⟩ := o9
      obtain rfl := Option.some.inj (ho.symm.trans e1)
      have dp := dep_of' e5 hdep
      have V6 : a.tmps.getD 143 undef = .pointer (some ⟨b', 0, none⟩) := hI.val 6 143 (by decide) rfl (dp 6 (by decide))
      have V8 : a.tmps.getD 145 undef = .slice sa sn sc := hI.val 8 145 (by decide) rfl (dp 8 (by decide))
      have V5 : a.tmps.getD 142 undef = .int .i64 E := hI.val 5 142 (by decide) rfl (dp 5 (by decide))
      refine wpOp_call (f := 17) (args := #[.pointer (some ⟨b', 0, none⟩), .slice sa sn sc]) ho e4 (by simp [execOp, e3, resolve, invoke, Deferred.ofValue, r17, ev, evf, evc, V6, V8]) ((kd w (hI.world.2.2.2.1 (dp 5 (by decide)) hl)).mono ?_)
      rintro e W' ⟨rfl, hp⟩
      refine ⟨_, rfl, ?_⟩
      rw [e2]
      refine hI.put hi rfl (Nat.lt_of_lt_of_le (by decide) hs) (inj 146 rfl) ?_ rfl (fun j u hj hlj hne hf => hf)
      show rlR w0 _ P1 P2 _ _
      unfold rlR
      dsimp only
      have yC := dp 5 (by decide)
      have yA := hcl.dep' o5 yC 4 (by decide)
      have yB := hcl.dep' o4 yA 1 (by decide)
      rw [sam, oth 1 (by decide), oth 4 (by decide), oth 5 (by decide)]
      exact ⟨(fun h => by rw [yB] at h; cases h), (fun _ h => by rw [yA] at h; cases h), (fun _ h => by rw [yC] at h; cases h), (fun _ h => by cases h), fun _ => hp⟩
    · obtain ⟨o', e1, e2, e3, e4, e5⟩ := o10
      obtain rfl := Option.some.inj (ho.symm.trans e1)
      have dp := dep_of' e5 hdep
      have V5 : a.tmps.getD 142 undef = .int .i64 E := hI.val 5 142 (by decide) rfl (dp 5 (by decide))
      have V9 : a.tmps.getD 146 undef = .int .i64 E' := hI.val 9 146 (by decide) rfl (dp 9 (by decide))
      exact wpOp_value (v := .bool (E != E')) (w' := w) ho e4 (by simp [execOp, e3, ev, evc, V5, V9, run_neq25, eqGuard]) (by rw [e2]; exact go rfl (by decide) rfl)
  · intro l a w hall hI
    have all : ∀ j, j < 11 → l j = true := fun j hj => hall j (by rw [hsz]; exact hj)
    exact fin a w hI.size hI.defers hI.kept (fun i d hi hD => hI.val i d hi hD (all i hi)) (hI.world.2.2.2.2 (all 9 (by decide)))

end Go.Proofs.Ytjbocoheognneaa
