/- The region of PagedDoes that copies the pages and fetches. -/
import Derived.Test.YtjbocoheognneaaRows
import Derived.Test.YtjbocoheognneaaPages
import Derived.Test.YtjbocoheognneaaView
import Derived.Test.YtjbocoheognneaaOwn
import Derived.Test.YtjbocoheognneaaLeast
import Derived.Test.YtjbocoheognneaaInvIn
import Derived.Test.YtjbocoheognneaaPutReg
import Derived.Test.YtjbocoheognneaaTwice
import Derived.Test.YtjbocoheognneaaRegPl
import Derived.WalkKit
import Derived.ProofKit
import Derived.OpenShut
import Derived.Below
import Derived.WalkLawsBesides
import Derived.Deep.QuietTactic
import Derived.BigQuiet
import Derived.RangeFuncNested
import Derived.RangeFuncBox
import Derived.RangeFuncBound
import Derived.RangeFuncCalls
import Derived.RangeFuncLeaves
import Derived.Shelf.Abstract
import Derived.Shelf.RegionOpen
import Derived.OwnWalkIn
import Derived.TacticsInMore
import Derived.LoopNIn
import Derived.LoopIn
import Derived.Orders
namespace Go.Proofs.Ytjbocoheognneaa
open Go.ChangeShapes Go.WideShapes Go.ChangeAt Go.RowKit
set_option linter.unusedVariables false

set_option linter.unusedSimpArgs false

def feD (i : Nat) : Option Nat := match i with | 0 => some 107 | 1 => some 108 | 2 => some 109 | 3 => some 110 | 4 => some 111 | 5 => some 112 | 6 => some 113 | 7 => some 114 | 8 => some 106 | 9 => some 115 | 10 => some 116 | 11 => some 15 | 12 => some 16 | _ => none
theorem feD_inj : ∀ i, i < 13 → ∀ j, j < 13 → feD i = feD j → feD i ≠ none → i = j := by decide
theorem feD_lt : ∀ i, i < 13 → ∀ d, feD i = some d → d < 117 := by
  intro i hi d h
  have : ∀ i, i < 13 → (feD i).all (fun d => decide (d < 117)) = true := by decide
  have := this i hi
  rw [h] at this
  simpa using this
def feF (b : Nat) (X : Addr) (g : Nat) (z : Int) (sa : Option Addr) (sn sc : Nat) (ca : Option Addr) (cn cc : Nat) (E : Int) (Post : Option Addr → Nat → Nat → World → Prop) (i : Nat) (q : Value) (w : World) : Prop := match i with
  | 0 => q = .pointer (some ⟨b, 0, none⟩)
  | 1 => q = .slice (some ⟨g, 0, none⟩) 0 0
  | 2 => q = .pointer (some (X.add 3))
  | 3 => q = .slice sa sn sc
  | 4 => q = .slice ca cn cc
  | 5 => q = .pointer (some (X.add 4))
  | 6 => q = .int .i64 z
  | 7 => ∃ (qa : Option Addr) (ql qc : Nat), q = .tuple #[.slice qa ql qc, .int .i64 E] ∧ Post qa ql qc w
  | 8 => ∃ (qa : Option Addr) (ql qc : Nat), q = .tuple #[.slice qa ql qc, .int .i64 E] ∧ Post qa ql qc w
  | 9 => ∃ (qa : Option Addr) (ql qc : Nat), q = .slice qa ql qc ∧ Post qa ql qc w
  | 10 => q = .int .i64 E
  | 11 => ∃ (qa : Option Addr) (ql qc : Nat), q = .slice qa ql qc ∧ Post qa ql qc w
  | 12 => q = .int .i64 E
  | _ => True
def feR (w0 W2 : World) (P1 P2 : World → Prop) (l : Nat → Bool) (w : World) : Prop := (l 1 = false → w = w0.drew) ∧ (l 1 = true → l 4 = false → w = w0.drew.alloc (.cells #[] 3)) ∧ (l 4 = true → l 7 = false → w = W2) ∧ (l 7 = true → P1 w)

set_option maxHeartbeats 8000000 in
theorem fe_region {id : Nat} {ops : Array Oper} {Q : Exit → Act → World → Prop} {a0 : Act} {w0 : World} (b : Nat) (X : Addr) (g : Nat) (z : Int) (sa : Option Addr) (sn sc : Nat) (ca : Option Addr) (cn cc : Nat) (E : Int) (Post : Option Addr → Nat → Nat → World → Prop) (W2 : World) (S P1 P2 : World → Prop) (hlow : lowB ops = true) (hsz : ops.size = 13)
    (o0 : OpIn ops 0 (some 107) (.move (.tmp 5)) none []) (o1 : OpIn ops 1 (some 108) (.buildSlice 32 0 #[]) none []) (o2 : OpIn ops 2 (some 109) (.fieldAddr 34 (.tmp 10) 3) none []) (o3 : OpIn ops 3 (some 110) (.load 32 (.tmp 109)) none [2]) (o4 : OpIn ops 4 (some 111) (.call { callee := .builtin .append, args := #[.tmp 108, .tmp 110], argTypes := #[32, 32] }) none [1, 3]) (o5 : OpIn ops 5 (some 112) (.fieldAddr 34 (.tmp 10) 4) none []) (o6 : OpIn ops 6 (some 113) (.load 3 (.tmp 112)) none [5]) (o7 : OpIn ops 7 (some 114) (.call { callee := .value (.func 13), args := #[.tmp 107, .tmp 111, .tmp 113], argTypes := #[24, 32, 3] }) none [0, 4, 6]) (o8 : OpIn ops 8 (some 106) (.move (.tmp 114)) none [7]) (o9 : OpIn ops 9 (some 115) (.extract (.tmp 106) 0) none [8]) (o10 : OpIn ops 10 (some 116) (.extract (.tmp 106) 1) none [8]) (o11 : OpIn ops 11 (some 15) (.assign (.tmp 115)) none [9]) (o12 : OpIn ops 12 (some 16) (.assign (.tmp 116)) none [10])
    (ty : TypeId) (hty : ∀ o, ops[4]? = some o → o.type = ty)
    (hS0 : S w0.drew) (hS1 : S (w0.drew.alloc (.cells #[] 3))) (hS2 : S W2) (hSP : ∀ w, P1 w → S w)
    (h5 : a0.tmps.getD 5 undef = .pointer (some ⟨b, 0, none⟩)) (h10 : a0.tmps.getD 10 undef = .pointer (some X)) (hg : g = w0.heap.size)
    (ld32 : ∀ w, S w → (Instr.loadAt 32 (.pointer (some (X.add 3)))).run Try.prog w = .ok (.slice sa sn sc) w) (ld3 : ∀ w, S w → (Instr.loadAt 3 (.pointer (some (X.add 4)))).run Try.prog w = .ok (.int .i64 z) w)
    (hap : (Builtin.append_ #[32, 32] ty #[.slice (some ⟨g, 0, none⟩) 0 0, .slice sa sn sc]).run Try.prog (w0.drew.alloc (.cells #[] 3)) = .ok (.slice ca cn cc) W2)
    (kc : Calls Try.prog 13 #[.pointer (some ⟨b, 0, none⟩), .slice ca cn cc, .int .i64 z] W2 fun e w' => ∃ qa ql qc, e = .returned (.tuple #[.slice qa ql qc, .int .i64 E]) ∧ Post qa ql qc w' ∧ P1 w')
    (hs : 117 ≤ a0.tmps.size)
    (fin : ∀ a w, a.tmps.size = a0.tmps.size → a.defers = a0.defers → (∀ s, (∀ i, i < 13 → feD i ≠ some s) → a.tmps.getD s undef = a0.tmps.getD s undef) → (∀ i d, i < 13 → feD i = some d → feF b X g z sa sn sc ca cn cc E Post i (a.tmps.getD d undef) w) → P1 w → Q .normal a w) :
    (Code.region id ops true).wp Try.prog Q a0 w0 := by
  have r13 : ∀ args w, (callFunc 13 args).run Try.prog w = .ok (.enter 13 args) w := enters_of Try.func13 (by kernel_rfl) rfl
  refine wp_region_inv2 (by kernel_rfl) hlow (Inv 13 feD a0 (fun l _ w => feR w0 W2 P1 P2 l w) (fun _ => feF b X g z sa sn sc ca cn cc E Post)) (Inv.start ⟨fun _ => rfl, (fun h => by cases h), (fun h => by cases h), fun h => by cases h⟩) ?_ ?_
  · intro l i o a w ho hl hcl hdep hI
    have hi : i < 13 := by rw [← hsz]; exact (Array.getElem?_eq_some_iff.1 ho).1
    have ev : ∀ (s : Nat), a.eval (.tmp s) = a.tmps.getD s undef := fun _ => rfl
    have evf : ∀ f, a.eval (.func f) = .func (.func f) #[] #[] := fun _ => rfl
    have evc : ∀ c : Value, a.eval (.const c) = c := fun _ => rfl
    have inj : ∀ d, feD i = some d → ∀ j d', j < 13 → feD j = some d' → j ≠ i → d' ≠ d := fun d hd j d' hj hd' hne e => hne (feD_inj j hj i hi (by rw [hd', hd, e]) (by rw [hd']; simp))
    have kp : ∀ s, (∀ i, i < 13 → feD i ≠ some s) → a.tmps.getD s undef = a0.tmps.getD s undef := hI.kept
    have oth : ∀ j, j ≠ i → (l j || j == i) = l j := fun j hj => by rw [show (j == i) = false by simp [hj], Bool.or_false]
    have sam : (l i || i == i) = true := by simp
    have go : ∀ {d : Nat} {v : Value}, feD i = some d → (i = 0 ∨ i = 2 ∨ i = 3 ∨ i = 5 ∨ i = 6 ∨ i = 8 ∨ i = 9 ∨ i = 10 ∨ i = 11 ∨ i = 12) → feF b X g z sa sn sc ca cn cc E Post i v w → Inv 13 feD a0 (fun l _ w => feR w0 W2 P1 P2 l w) (fun _ => feF b X g z sa sn sc ca cn cc E Post) (fun j => l j || j == i) (a.put (some d) v) w := by
      intro d v hD hi' hF
      refine hI.put hi hD (Nat.lt_of_lt_of_le (feD_lt i hi d hD) hs) (inj d hD) ?_ hF (fun j u _ _ _ hf => hf)
      show feR w0 W2 P1 P2 _ w
      unfold feR
      dsimp only
      rw [oth 1 (by omega), oth 4 (by omega), oth 7 (by omega)]
      exact hI.world
    have hSw : l 7 = false → S w := fun hc => by
      cases e1 : l 1 with
      | false => rw [hI.world.1 e1]; exact hS0
      | true =>
        cases e2 : l 4 with
        | false => rw [hI.world.2.1 e1 e2]; exact hS1
        | true => rw [hI.world.2.2.1 e2 hc]; exact hS2
    rcases (show i = 0 ∨ i = 1 ∨ i = 2 ∨ i = 3 ∨ i = 4 ∨ i = 5 ∨ i = 6 ∨ i = 7 ∨ i = 8 ∨ i = 9 ∨ i = 10 ∨ i = 11 ∨ i = 12 by omega) with rfl | rfl | rfl | rfl | rfl | rfl | rfl | rfl | rfl | rfl | rfl | rfl | rfl
    · obtain ⟨o', e1, e2, e3, e4, e5⟩ := o0
      obtain rfl := Option.some.inj (ho.symm.trans e1)
      have dp := dep_of' e5 hdep
      exact wpOp_value (v := .pointer (some ⟨b, 0, none⟩)) (w' := w) ho e4 (by simp [execOp, e3, ev, evc, kp 5 (by decide), h5]) (by rw [e2]; exact go rfl (by decide) rfl)
    · obtain ⟨o', e1, e2, e3, e4, e5⟩ := o1
      obtain rfl := Option.some.inj (ho.symm.trans e1)
      have dp := dep_of' e5 hdep
      have n4 : l 4 = false := by cases e : l 4 with | false => rfl | true => have := hcl.dep' o4 e 1 (by decide); rw [hl] at this; cases this
      have n7 : l 7 = false := by cases e : l 7 with | false => rfl | true => have := hcl.dep' o7 e 4 (by decide); rw [n4] at this; cases this
      obtain rfl := hI.world.1 hl
      refine wpOp_value (v := .slice (some ⟨g, 0, none⟩) 0 0) (w' := w0.drew.alloc (.cells #[] 3)) ho e4 (by simp [execOp, e3, run_build32, hg]) ?_
      rw [e2]
      refine hI.put hi rfl (Nat.lt_of_lt_of_le (by decide) hs) (inj 108 rfl) ?_ rfl (fun j u hj hlj hne hf => (by
        have nj : j ≠ 7 ∧ j ≠ 8 ∧ j ≠ 9 ∧ j ≠ 11 := ⟨(fun e => by subst e; have z0 := hlj; rw [n7] at z0; cases z0), (fun e => by subst e; have z0 := hlj; have z1 := hcl.dep' o8 z0 7 (by decide); rw [n7] at z1; cases z1), (fun e => by subst e; have z0 := hlj; have z1 := hcl.dep' o9 z0 8 (by decide); have z2 := hcl.dep' o8 z1 7 (by decide); rw [n7] at z2; cases z2), (fun e => by subst e; have z0 := hlj; have z1 := hcl.dep' o11 z0 9 (by decide); have z2 := hcl.dep' o9 z1 8 (by decide); have z3 := hcl.dep' o8 z2 7 (by decide); rw [n7] at z3; cases z3)⟩
        revert hf
        unfold feF
        split <;> first | exact fun x => x | (intro _; exfalso; omega)))
      show feR w0 _ P1 P2 _ _
      unfold feR
      dsimp only
      rw [sam, oth 4 (by decide), oth 7 (by decide)]
      exact ⟨(fun h => by cases h), fun _ _ => rfl, (fun h => by rw [n4] at h; cases h), (fun h => by rw [n7] at h; cases h)⟩
    · obtain ⟨o', e1, e2, e3, e4, e5⟩ := o2
      obtain rfl := Option.some.inj (ho.symm.trans e1)
      have dp := dep_of' e5 hdep
      exact wpOp_value (v := .pointer (some (X.add 3))) (w' := w) ho e4 (by simp [execOp, e3, ev, evc, kp 10 (by decide), h10, run_field34 X 3 (by decide)]) (by rw [e2]; exact go rfl (by decide) rfl)
    · obtain ⟨o', e1, e2, e3, e4, e5⟩ := o3
      obtain rfl := Option.some.inj (ho.symm.trans e1)
      have dp := dep_of' e5 hdep
      have V2 : a.tmps.getD 109 undef = .pointer (some (X.add 3)) := hI.val 2 109 (by decide) rfl (dp 2 (by decide))
      have nl : l 7 = false := by
        cases e : l 7 with
        | false => rfl
        | true =>
          exfalso
          have y0 := hcl.dep' o7 e 4 (by decide)
          have y1 := hcl.dep' o4 y0 3 (by decide)
          rw [hl] at y1
          cases y1
      exact wpOp_value (v := .slice sa sn sc) (w' := w) ho e4 (by simp [execOp, e3, ev, V2, ld32 w (hSw nl)]) (by rw [e2]; exact go rfl (by decide) rfl)
    · obtain ⟨o', e1, e2, e3, e4, e5⟩ := o4
      obtain rfl := Option.some.inj (ho.symm.trans e1)
      have dp := dep_of' e5 hdep
      have V1 : a.tmps.getD 108 undef = .slice (some ⟨g, 0, none⟩) 0 0 := hI.val 1 108 (by decide) rfl (dp 1 (by decide))
      have V3 : a.tmps.getD 110 undef = .slice sa sn sc := hI.val 3 110 (by decide) rfl (dp 3 (by decide))
      have n7 : l 7 = false := by cases e : l 7 with | false => rfl | true => have := hcl.dep' o7 e 4 (by decide); rw [hl] at this; cases this
      obtain rfl := hI.world.2.1 (dp 1 (by decide)) hl
      have hap' := hap
      rw [← hty _ ho] at hap'
      refine wpOp_value (v := .slice ca cn cc) (w' := W2) ho e4 (by simp only [execOp, e3, resolve, invoke, builtin, Sem.run_bind, Sem.run_pure, Result.andThen_ok, List.map_toArray, List.map_cons, List.map_nil, ev, V1, V3, hap']) ?_
      rw [e2]
      refine hI.put hi rfl (Nat.lt_of_lt_of_le (by decide) hs) (inj 111 rfl) ?_ rfl (fun j u hj hlj hne hf => (by
        have nj : j ≠ 7 ∧ j ≠ 8 ∧ j ≠ 9 ∧ j ≠ 11 := ⟨(fun e => by subst e; have z0 := hlj; rw [n7] at z0; cases z0), (fun e => by subst e; have z0 := hlj; have z1 := hcl.dep' o8 z0 7 (by decide); rw [n7] at z1; cases z1), (fun e => by subst e; have z0 := hlj; have z1 := hcl.dep' o9 z0 8 (by decide); have z2 := hcl.dep' o8 z1 7 (by decide); rw [n7] at z2; cases z2), (fun e => by subst e; have z0 := hlj; have z1 := hcl.dep' o11 z0 9 (by decide); have z2 := hcl.dep' o9 z1 8 (by decide); have z3 := hcl.dep' o8 z2 7 (by decide); rw [n7] at z3; cases z3)⟩
        revert hf
        unfold feF
        split <;> first | exact fun x => x | (intro _; exfalso; omega)))
      show feR w0 _ P1 P2 _ _
      unfold feR
      dsimp only
      rw [sam, oth 1 (by decide), oth 7 (by decide)]
      exact ⟨(fun h => by rw [dp 1 (by decide)] at h; cases h), (fun _ h => by cases h), fun _ _ => rfl, (fun h => by rw [n7] at h; cases h)⟩
    · obtain ⟨o', e1, e2, e3, e4, e5⟩ := o5
      obtain rfl := Option.some.inj (ho.symm.trans e1)
      have dp := dep_of' e5 hdep
      exact wpOp_value (v := .pointer (some (X.add 4))) (w' := w) ho e4 (by simp [execOp, e3, ev, evc, kp 10 (by decide), h10, run_field34 X 4 (by decide)]) (by rw [e2]; exact go rfl (by decide) rfl)
    · obtain ⟨o', e1, e2, e3, e4, e5⟩ := o6
      obtain rfl := Option.some.inj (ho.symm.trans e1)
      have dp := dep_of' e5 hdep
      have V5 : a.tmps.getD 112 undef = .pointer (some (X.add 4)) := hI.val 5 112 (by decide) rfl (dp 5 (by decide))
      have nl : l 7 = false := by
        cases e : l 7 with
        | false => rfl
        | true =>
          exfalso
          have y0 := hcl.dep' o7 e 6 (by decide)
          rw [hl] at y0
          cases y0
      exact wpOp_value (v := .int .i64 z) (w' := w) ho e4 (by simp [execOp, e3, ev, V5, ld3 w (hSw nl)]) (by rw [e2]; exact go rfl (by decide) rfl)
    · obtain ⟨o', e1, e2, e3, e4, e5⟩ := o7
      obtain rfl := Option.some.inj (ho.symm.trans e1)
      have dp := dep_of' e5 hdep
      have V0 : a.tmps.getD 107 undef = .pointer (some ⟨b, 0, none⟩) := hI.val 0 107 (by decide) rfl (dp 0 (by decide))
      have V4 : a.tmps.getD 111 undef = .slice ca cn cc := hI.val 4 111 (by decide) rfl (dp 4 (by decide))
      have V6 : a.tmps.getD 113 undef = .int .i64 z := hI.val 6 113 (by decide) rfl (dp 6 (by decide))
      obtain rfl := hI.world.2.2.1 (dp 4 (by decide)) hl
      refine wpOp_call (f := 13) (args := #[.pointer (some ⟨b, 0, none⟩), .slice ca cn cc, .int .i64 z]) ho e4 (by simp [execOp, e3, resolve, invoke, Deferred.ofValue, r13, ev, evf, evc, V0, V4, V6]) (kc.mono ?_)
      rintro e W' ⟨qa, ql, qc, rfl, hq, hp⟩
      refine ⟨_, rfl, ?_⟩
      rw [e2]
      refine hI.put hi rfl (Nat.lt_of_lt_of_le (by decide) hs) (inj 114 rfl) ?_ ⟨qa, ql, qc, rfl, hq⟩ (fun j u hj hlj hne hf => (by
        have nj : j ≠ 7 ∧ j ≠ 8 ∧ j ≠ 9 ∧ j ≠ 11 := ⟨(fun e => by subst e; have z0 := hlj; rw [hl] at z0; cases z0), (fun e => by subst e; have z0 := hlj; have z1 := hcl.dep' o8 z0 7 (by decide); rw [hl] at z1; cases z1), (fun e => by subst e; have z0 := hlj; have z1 := hcl.dep' o9 z0 8 (by decide); have z2 := hcl.dep' o8 z1 7 (by decide); rw [hl] at z2; cases z2), (fun e => by subst e; have z0 := hlj; have z1 := hcl.dep' o11 z0 9 (by decide); have z2 := hcl.dep' o9 z1 8 (by decide); have z3 := hcl.dep' o8 z2 7 (by decide); rw [hl] at z3; cases z3)⟩
        revert hf
        unfold feF
        split <;> first | exact fun x => x | (intro _; exfalso; omega)))
      show feR w0 _ P1 P2 _ _
      unfold feR
      dsimp only
      rw [sam, oth 1 (by decide), oth 4 (by decide)]
      exact ⟨(fun h => by rw [hcl.dep' o4 (dp 4 (by decide)) 1 (by decide)] at h; cases h), (fun _ h => by rw [dp 4 (by decide)] at h; cases h), (fun _ h => by cases h), fun _ => hp⟩
    · obtain ⟨o', e1, e2, e3, e4, e5⟩ := o8
      obtain rfl := Option.some.inj (ho.symm.trans e1)
      have dp := dep_of' e5 hdep
      obtain ⟨qa7, ql7, qc7, V7, qp7⟩ : ∃ (qa : Option Addr) (ql qc : Nat), a.tmps.getD 114 undef = .tuple #[.slice qa ql qc, .int .i64 E] ∧ Post qa ql qc w := hI.val 7 114 (by decide) rfl (dp 7 (by decide))
      exact wpOp_value (v := .tuple #[.slice qa7 ql7 qc7, .int .i64 E]) (w' := w) ho e4 (by simp [execOp, e3, ev, V7]) (by rw [e2]; exact go rfl (by decide) ⟨_, _, _, rfl, qp7⟩)
    · obtain ⟨o', e1, e2, e3, e4, e5⟩ := o9
      obtain rfl := Option.some.inj (ho.symm.trans e1)
      have dp := dep_of' e5 hdep
      obtain ⟨qa8, ql8, qc8, V8, qp8⟩ : ∃ (qa : Option Addr) (ql qc : Nat), a.tmps.getD 106 undef = .tuple #[.slice qa ql qc, .int .i64 E] ∧ Post qa ql qc w := hI.val 8 106 (by decide) rfl (dp 8 (by decide))
      exact wpOp_value (v := .slice qa8 ql8 qc8) (w' := w) ho e4 (by simp [execOp, e3, ev, V8, run_ext0]) (by rw [e2]; exact go rfl (by decide) ⟨_, _, _, rfl, qp8⟩)
    · obtain ⟨o', e1, e2, e3, e4, e5⟩ := o10
      obtain rfl := Option.some.inj (ho.symm.trans e1)
      have dp := dep_of' e5 hdep
      obtain ⟨qa8, ql8, qc8, V8, qp8⟩ : ∃ (qa : Option Addr) (ql qc : Nat), a.tmps.getD 106 undef = .tuple #[.slice qa ql qc, .int .i64 E] ∧ Post qa ql qc w := hI.val 8 106 (by decide) rfl (dp 8 (by decide))
      exact wpOp_value (v := .int .i64 E) (w' := w) ho e4 (by simp [execOp, e3, ev, evc, V8, run_ext1]) (by rw [e2]; exact go rfl (by decide) rfl)
    · obtain ⟨o', e1, e2, e3, e4, e5⟩ := o11
      obtain rfl := Option.some.inj (ho.symm.trans e1)
      have dp := dep_of' e5 hdep
      obtain ⟨qa9, ql9, qc9, V9, qp9⟩ : ∃ (qa : Option Addr) (ql qc : Nat), a.tmps.getD 115 undef = .slice qa ql qc ∧ Post qa ql qc w := hI.val 9 115 (by decide) rfl (dp 9 (by decide))
      exact wpOp_value (v := .slice qa9 ql9 qc9) (w' := w) ho e4 (by simp [execOp, e3, ev, V9]) (by rw [e2]; exact go rfl (by decide) ⟨_, _, _, rfl, qp9⟩)
    · obtain ⟨o', e1, e2, e3, e4, e5⟩ := o12
      obtain rfl := Option.some.inj (ho.symm.trans e1)
      have dp := dep_of' e5 hdep
      have V10 : a.tmps.getD 116 undef = .int .i64 E := hI.val 10 116 (by decide) rfl (dp 10 (by decide))
      exact wpOp_value (v := .int .i64 E) (w' := w) ho e4 (by simp [execOp, e3, ev, evc, V10]) (by rw [e2]; exact go rfl (by decide) rfl)
  · intro l a w hall hI
    have all : ∀ j, j < 13 → l j = true := fun j hj => hall j (by rw [hsz]; exact hj)
    exact fin a w hI.size hI.defers hI.kept (fun i d hi hD => hI.val i d hi hD (all i hi)) (hI.world.2.2.2 (all 7 (by decide)))

end Go.Proofs.Ytjbocoheognneaa
