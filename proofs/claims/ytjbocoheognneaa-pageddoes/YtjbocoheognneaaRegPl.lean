/- The region of PagedDoes that copies the weights and places them. -/
import Derived.Test.YtjbocoheognneaaRows
import Derived.Test.YtjbocoheognneaaPages
import Derived.Test.YtjbocoheognneaaView
import Derived.Test.YtjbocoheognneaaOwn
import Derived.Test.YtjbocoheognneaaLeast
import Derived.Test.YtjbocoheognneaaInvIn
import Derived.Test.YtjbocoheognneaaPutReg
import Derived.Test.YtjbocoheognneaaTwice
import Derived.WalkKit
import Derived.ProofKit
import Derived.OpenShut
import Derived.Below
import Derived.WalkLawsBesides
import Derived.Deep.QuietTactic
import Derived.BigQuiet
import Derived.RangeFuncNested
import Derived.RangeFuncBox
import Derived.RangeFuncBound
import Derived.RangeFuncCalls
import Derived.RangeFuncLeaves
import Derived.Shelf.Abstract
import Derived.Shelf.RegionOpen
import Derived.OwnWalkIn
import Derived.TacticsInMore
import Derived.LoopNIn
import Derived.LoopIn
import Derived.Orders
namespace Go.Proofs.Ytjbocoheognneaa
open Go.ChangeShapes Go.WideShapes Go.ChangeAt Go.RowKit
set_option linter.unusedVariables false

set_option linter.unusedSimpArgs false

theorem run_build31 (w : World) : (Instr.buildSlice 31 0 #[]).run Try.prog w = .ok (.slice (some ⟨w.heap.size, 0, none⟩) 0 0) (w.alloc (.cells #[] 67)) := by go_simp
theorem run_field34 (X : Addr) (f : Nat) (hf : f < 6) (w : World) : (Instr.fieldAt 34 (.pointer (some X)) f).run Try.prog w = .ok (.pointer (some (X.add f))) w := by
  rcases (show f = 0 ∨ f = 1 ∨ f = 2 ∨ f = 3 ∨ f = 4 ∨ f = 5 by omega) with rfl | rfl | rfl | rfl | rfl | rfl <;> go_simp
theorem run_load9 {w : World} {p : Addr} {t : ByteArray} (h : w.cell? p = some (.string t)) : (Instr.loadAt 9 (.pointer (some p))).run Try.prog w = .ok (.string t) w := by go_simp
theorem run_load32 {w : World} {p : Addr} {a : Option Addr} {n c : Nat} (h : w.cell? p = some (.slice a n c)) : (Instr.loadAt 32 (.pointer (some p))).run Try.prog w = .ok (.slice a n c) w := by go_simp
theorem run_ext0 (a b : Value) (w : World) : (Instr.extract (.tuple #[a, b]) 0).run Try.prog w = .ok a w := by simp [Instr.extract]
theorem run_ext1 (a b : Value) (w : World) : (Instr.extract (.tuple #[a, b]) 1).run Try.prog w = .ok b w := by simp [Instr.extract]

def plD (i : Nat) : Option Nat := match i with | 0 => some 76 | 1 => some 77 | 2 => some 78 | 3 => some 79 | 4 => some 80 | 5 => some 81 | 6 => some 82 | 7 => some 83 | 8 => some 75 | 9 => some 84 | 10 => some 85 | 11 => some 11 | 12 => some 12 | _ => none
theorem plD_inj : ∀ i, i < 13 → ∀ j, j < 13 → plD i = plD j → plD i ≠ none → i = j := by decide
theorem plD_lt : ∀ i, i < 13 → ∀ d, plD i = some d → d < 86 := by
  intro i hi d h
  have : ∀ i, i < 13 → (plD i).all (fun d => decide (d < 86)) = true := by decide
  have := this i hi
  rw [h] at this
  simpa using this
def plF (b : Nat) (X : Addr) (g : Nat) (t : ByteArray) (sa : Option Addr) (sn sc : Nat) (ca : Option Addr) (cn cc : Nat) (E : Int) (Post : Option Addr → Nat → Nat → World → Prop) (i : Nat) (q : Value) (w : World) : Prop := match i with
  | 0 => q = .pointer (some ⟨b, 0, none⟩)
  | 1 => q = .pointer (some (X.add 1))
  | 2 => q = .string t
  | 3 => q = .slice (some ⟨g, 0, none⟩) 0 0
  | 4 => q = .pointer (some (X.add 2))
  | 5 => q = .slice sa sn sc
  | 6 => q = .slice ca cn cc
  | 7 => ∃ (qa : Option Addr) (ql qc : Nat), q = .tuple #[.slice qa ql qc, .int .i64 E] ∧ Post qa ql qc w
  | 8 => ∃ (qa : Option Addr) (ql qc : Nat), q = .tuple #[.slice qa ql qc, .int .i64 E] ∧ Post qa ql qc w
  | 9 => ∃ (qa : Option Addr) (ql qc : Nat), q = .slice qa ql qc ∧ Post qa ql qc w
  | 10 => q = .int .i64 E
  | 11 => ∃ (qa : Option Addr) (ql qc : Nat), q = .slice qa ql qc ∧ Post qa ql qc w
  | 12 => q = .int .i64 E
  | _ => True
def plR (w0 W2 : World) (P1 P2 : World → Prop) (l : Nat → Bool) (w : World) : Prop := (l 3 = false → w = w0.drew) ∧ (l 3 = true → l 6 = false → w = w0.drew.alloc (.cells #[] 67)) ∧ (l 6 = true → l 7 = false → w = W2) ∧ (l 7 = true → P1 w)

set_option maxHeartbeats 8000000 in
theorem pl_region {id : Nat} {ops : Array Oper} {Q : Exit → Act → World → Prop} {a0 : Act} {w0 : World} (b : Nat) (X : Addr) (g : Nat) (t : ByteArray) (sa : Option Addr) (sn sc : Nat) (ca : Option Addr) (cn cc : Nat) (E : Int) (Post : Option Addr → Nat → Nat → World → Prop) (W2 : World) (S P1 P2 : World → Prop) (hlow : lowB ops = true) (hsz : ops.size = 13)
    (o0 : OpIn ops 0 (some 76) (.move (.tmp 5)) none []) (o1 : OpIn ops 1 (some 77) (.fieldAddr 34 (.tmp 10) 1) none []) (o2 : OpIn ops 2 (some 78) (.load 9 (.tmp 77)) none [1]) (o3 : OpIn ops 3 (some 79) (.buildSlice 31 0 #[]) none []) (o4 : OpIn ops 4 (some 80) (.fieldAddr 34 (.tmp 10) 2) none []) (o5 : OpIn ops 5 (some 81) (.load 31 (.tmp 80)) none [4]) (o6 : OpIn ops 6 (some 82) (.call { callee := .builtin .append, args := #[.tmp 79, .tmp 81], argTypes := #[31, 31] }) none [3, 5]) (o7 : OpIn ops 7 (some 83) (.call { callee := .value (.func 10), args := #[.tmp 76, .tmp 78, .tmp 82], argTypes := #[24, 9, 31] }) none [0, 2, 6]) (o8 : OpIn ops 8 (some 75) (.move (.tmp 83)) none [7]) (o9 : OpIn ops 9 (some 84) (.extract (.tmp 75) 0) none [8]) (o10 : OpIn ops 10 (some 85) (.extract (.tmp 75) 1) none [8]) (o11 : OpIn ops 11 (some 11) (.assign (.tmp 84)) none [9]) (o12 : OpIn ops 12 (some 12) (.assign (.tmp 85)) none [10])
    (ty : TypeId) (hty : ∀ o, ops[6]? = some o → o.type = ty)
    (hS0 : S w0.drew) (hS1 : S (w0.drew.alloc (.cells #[] 67))) (hS2 : S W2) (hSP : ∀ w, P1 w → S w)
    (h5 : a0.tmps.getD 5 undef = .pointer (some ⟨b, 0, none⟩)) (h10 : a0.tmps.getD 10 undef = .pointer (some X)) (hg : g = w0.heap.size)
    (ld9 : ∀ w, S w → (Instr.loadAt 9 (.pointer (some (X.add 1)))).run Try.prog w = .ok (.string t) w) (ld31 : ∀ w, S w → (Instr.loadAt 31 (.pointer (some (X.add 2)))).run Try.prog w = .ok (.slice sa sn sc) w)
    (hap : (Builtin.append_ #[31, 31] ty #[.slice (some ⟨g, 0, none⟩) 0 0, .slice sa sn sc]).run Try.prog (w0.drew.alloc (.cells #[] 67)) = .ok (.slice ca cn cc) W2)
    (kc : Calls Try.prog 10 #[.pointer (some ⟨b, 0, none⟩), .string t, .slice ca cn cc] W2 fun e w' => ∃ qa ql qc, e = .returned (.tuple #[.slice qa ql qc, .int .i64 E]) ∧ Post qa ql qc w' ∧ P1 w')
    (hs : 86 ≤ a0.tmps.size)
    (fin : ∀ a w, a.tmps.size = a0.tmps.size → a.defers = a0.defers → (∀ s, (∀ i, i < 13 → plD i ≠ some s) → a.tmps.getD s undef = a0.tmps.getD s undef) → (∀ i d, i < 13 → plD i = some d → plF b X g t sa sn sc ca cn cc E Post i (a.tmps.getD d undef) w) → P1 w → Q .normal a w) :
    (Code.region id ops true).wp Try.prog Q a0 w0 := by
  have r10 : ∀ args w, (callFunc 10 args).run Try.prog w = .ok (.enter 10 args) w := enters_of Try.func10 (by kernel_rfl) rfl
  refine wp_region_inv2 (by kernel_rfl) hlow (Inv 13 plD a0 (fun l _ w => plR w0 W2 P1 P2 l w) (fun _ => plF b X g t sa sn sc ca cn cc E Post)) (Inv.start ⟨fun _ => rfl, (fun h => by cases h), (fun h => by cases h), fun h => by cases h⟩) ?_ ?_
  · intro l i o a w ho hl hcl hdep hI
    have hi : i < 13 := by rw [← hsz]; exact (Array.getElem?_eq_some_iff.1 ho).1
    have ev : ∀ (s : Nat), a.eval (.tmp s) = a.tmps.getD s undef := fun _ => rfl
    have evf : ∀ f, a.eval (.func f) = .func (.func f) #[] #[] := fun _ => rfl
    have evc : ∀ c : Value, a.eval (.const c) = c := fun _ => rfl
    have inj : ∀ d, plD i = some d → ∀ j d', j < 13 → plD j = some d' → j ≠ i → d' ≠ d := fun d hd j d' hj hd' hne e => hne (plD_inj j hj i hi (by rw [hd', hd, e]) (by rw [hd']; simp))
    have kp : ∀ s, (∀ i, i < 13 → plD i ≠ some s) → a.tmps.getD s undef = a0.tmps.getD s undef := hI.kept
    have oth : ∀ j, j ≠ i → (l j || j == i) = l j := fun j hj => by rw [show (j == i) = false by simp [hj], Bool.or_false]
    have sam : (l i || i == i) = true := by simp
    have go : ∀ {d : Nat} {v : Value}, plD i = some d → (i = 0 ∨ i = 1 ∨ i = 2 ∨ i = 4 ∨ i = 5 ∨ i = 8 ∨ i = 9 ∨ i = 10 ∨ i = 11 ∨ i = 12) → plF b X g t sa sn sc ca cn cc E Post i v w → Inv 13 plD a0 (fun l _ w => plR w0 W2 P1 P2 l w) (fun _ => plF b X g t sa sn sc ca cn cc E Post) (fun j => l j || j == i) (a.put (some d) v) w := by
      intro d v hD hi' hF
      refine hI.put hi hD (Nat.lt_of_lt_of_le (plD_lt i hi d hD) hs) (inj d hD) ?_ hF (fun j u _ _ _ hf => hf)
      show plR w0 W2 P1 P2 _ w
      unfold plR
      dsimp only
      rw [oth 3 (by omega), oth 6 (by omega), oth 7 (by omega)]
      exact hI.world
    have hSw : l 7 = false → S w := fun hc => by
      cases e1 : l 3 with
      | false => rw [hI.world.1 e1]; exact hS0
      | true =>
        cases e2 : l 6 with
        | false => rw [hI.world.2.1 e1 e2]; exact hS1
        | true => rw [hI.world.2.2.1 e2 hc]; exact hS2
    rcases (show i = 0 ∨ i = 1 ∨ i = 2 ∨ i = 3 ∨ i = 4 ∨ i = 5 ∨ i = 6 ∨ i = 7 ∨ i = 8 ∨ i = 9 ∨ i = 10 ∨ i = 11 ∨ i = 12 by omega) with rfl | rfl | rfl | rfl | rfl | rfl | rfl | rfl | rfl | rfl | rfl | rfl | rfl
    · obtain ⟨o', e1, e2, e3, e4, e5⟩ := o0
      obtain rfl := Option.some.inj (ho.symm.trans e1)
      have dp := dep_of' e5 hdep
      exact wpOp_value (v := .pointer (some ⟨b, 0, none⟩)) (w' := w) ho e4 (by simp [execOp, e3, ev, evc, kp 5 (by decide), h5]) (by rw [e2]; exact go rfl (by decide) rfl)
    · obtain ⟨o', e1, e2, e3, e4, e5⟩ := o1
      obtain rfl := Option.some.inj (ho.symm.trans e1)
      have dp := dep_of' e5 hdep
      exact wpOp_value (v := .pointer (some (X.add 1))) (w' := w) ho e4 (by simp [execOp, e3, ev, evc, kp 10 (by decide), h10, run_field34 X 1 (by decide)]) (by rw [e2]; exact go rfl (by decide) rfl)
    · obtain ⟨o', e1, e2, e3, e4, e5⟩ := o2
      obtain rfl := Option.some.inj (ho.symm.trans e1)
      have dp := dep_of' e5 hdep
      have V1 : a.tmps.getD 77 undef = .pointer (some (X.add 1)) := hI.val 1 77 (by decide) rfl (dp 1 (by decide))
      have nl : l 7 = false := by
        cases e : l 7 with
        | false => rfl
        | true =>
          exfalso
          have y0 := hcl.dep' o7 e 2 (by decide)
          rw [hl] at y0
          cases y0
      exact wpOp_value (v := .string t) (w' := w) ho e4 (by simp [execOp, e3, ev, V1, ld9 w (hSw nl)]) (by rw [e2]; exact go rfl (by decide) rfl)
    · obtain ⟨o', e1, e2, e3, e4, e5⟩ := o3
      obtain rfl := Option.some.inj (ho.symm.trans e1)
      have dp := dep_of' e5 hdep
      have n6 : l 6 = false := by cases e : l 6 with | false => rfl | true => have := hcl.dep' o6 e 3 (by decide); rw [hl] at this; cases this
      have n7 : l 7 = false := by cases e : l 7 with | false => rfl | true => have := hcl.dep' o7 e 6 (by decide); rw [n6] at this; cases this
      obtain rfl := hI.world.1 hl
      refine wpOp_value (v := .slice (some ⟨g, 0, none⟩) 0 0) (w' := w0.drew.alloc (.cells #[] 67)) ho e4 (by simp [execOp, e3, run_build31, hg]) ?_
      rw [e2]
      refine hI.put hi rfl (Nat.lt_of_lt_of_le (by decide) hs) (inj 79 rfl) ?_ rfl (fun j u hj hlj hne hf => (by
        have nj : j ≠ 7 ∧ j ≠ 8 ∧ j ≠ 9 ∧ j ≠ 11 := ⟨(fun e => by subst e; have z0 := hlj; rw [n7] at z0; cases z0), (fun e => by subst e; have z0 := hlj; have z1 := hcl.dep' o8 z0 7 (by decide); rw [n7] at z1; cases z1), (fun e => by subst e; have z0 := hlj; have z1 := hcl.dep' o9 z0 8 (by decide); have z2 := hcl.dep' o8 z1 7 (by decide); rw [n7] at z2; cases z2), (fun e => by subst e; have z0 := hlj; have z1 := hcl.dep' o11 z0 9 (by decide); have z2 := hcl.dep' o9 z1 8 (by decide); have z3 := hcl.dep' o8 z2 7 (by decide); rw [n7] at z3; cases z3)⟩
        revert hf
        unfold plF
        split <;> first | exact fun x => x | (intro _; exfalso; omega)))
      show plR w0 _ P1 P2 _ _
      unfold plR
      dsimp only
      rw [sam, oth 6 (by decide), oth 7 (by decide)]
      exact ⟨(fun h => by cases h), fun _ _ => rfl, (fun h => by rw [n6] at h; cases h), (fun h => by rw [n7] at h; cases h)⟩
    · obtain ⟨o', e1, e2, e3, e4, e5⟩ := o4
      obtain rfl := Option.some.inj (ho.symm.trans e1)
      have dp := dep_of' e5 hdep
      exact wpOp_value (v := .pointer (some (X.add 2))) (w' := w) ho e4 (by simp [execOp, e3, ev, evc, kp 10 (by decide), h10, run_field34 X 2 (by decide)]) (by rw [e2]; exact go rfl (by decide) rfl)
    · obtain ⟨o', e1, e2, e3, e4, e5⟩ := o5
      obtain rfl := Option.some.inj (ho.symm.trans e1)
      have dp := dep_of' e5 hdep
      have V4 : a.tmps.getD 80 undef = .pointer (some (X.add 2)) := hI.val 4 80 (by decide) rfl (dp 4 (by decide))
      have nl : l 7 = false := by
        cases e : l 7 with
        | false => rfl
        | true =>
          exfalso
          have y0 := hcl.dep' o7 e 6 (by decide)
          have y1 := hcl.dep' o6 y0 5 (by decide)
          rw [hl] at y1
          cases y1
      exact wpOp_value (v := .slice sa sn sc) (w' := w) ho e4 (by simp [execOp, e3, ev, V4, ld31 w (hSw nl)]) (by rw [e2]; exact go rfl (by decide) rfl)
    · obtain ⟨o', e1, e2, e3, e4, e5⟩ := o6
      obtain rfl := Option.some.inj (ho.symm.trans e1)
      have dp := dep_of' e5 hdep
      have V3 : a.tmps.getD 79 undef = .slice (some ⟨g, 0, none⟩) 0 0 := hI.val 3 79 (by decide) rfl (dp 3 (by decide))
      have V5 : a.tmps.getD 81 undef = .slice sa sn sc := hI.val 5 81 (by decide) rfl (dp 5 (by decide))
      have n7 : l 7 = false := by cases e : l 7 with | false => rfl | true => have := hcl.dep' o7 e 6 (by decide); rw [hl] at this; cases this
      obtain rfl := hI.world.2.1 (dp 3 (by decide)) hl
      have hap' := hap
      rw [← hty _ ho] at hap'
      refine wpOp_value (v := .slice ca cn cc) (w' := W2) ho e4 (by simp only [execOp, e3, resolve, invoke, builtin, Sem.run_bind, Sem.run_pure, Result.andThen_ok, List.map_toArray, List.map_cons, List.map_nil, ev, V3, V5, hap']) ?_
      rw [e2]
      refine hI.put hi rfl (Nat.lt_of_lt_of_le (by decide) hs) (inj 82 rfl) ?_ rfl (fun j u hj hlj hne hf => (by
        have nj : j ≠ 7 ∧ j ≠ 8 ∧ j ≠ 9 ∧ j ≠ 11 := ⟨(fun e => by subst e; have z0 := hlj; rw [n7] at z0; cases z0), (fun e => by subst e; have z0 := hlj; have z1 := hcl.dep' o8 z0 7 (by decide); rw [n7] at z1; cases z1), (fun e => by subst e; have z0 := hlj; have z1 := hcl.dep' o9 z0 8 (by decide); have z2 := hcl.dep' o8 z1 7 (by decide); rw [n7] at z2; cases z2), (fun e => by subst e; have z0 := hlj; have z1 := hcl.dep' o11 z0 9 (by decide); have z2 := hcl.dep' o9 z1 8 (by decide); have z3 := hcl.dep' o8 z2 7 (by decide); rw [n7] at z3; cases z3)⟩
        revert hf
        unfold plF
        split <;> first | exact fun x => x | (intro _; exfalso; omega)))
      show plR w0 _ P1 P2 _ _
      unfold plR
      dsimp only
      rw [sam, oth 3 (by decide), oth 7 (by decide)]
      exact ⟨(fun h => by rw [dp 3 (by decide)] at h; cases h), (fun _ h => by cases h), fun _ _ => rfl, (fun h => by rw [n7] at h; cases h)⟩
    · obtain ⟨o', e1, e2, e3, e4, e5⟩ := o7
      obtain rfl := Option.some.inj (ho.symm.trans e1)
      have dp := dep_of' e5 hdep
      have V0 : a.tmps.getD 76 undef = .pointer (some ⟨b, 0, none⟩) := hI.val 0 76 (by decide) rfl (dp 0 (by decide))
      have V2 : a.tmps.getD 78 undef = .string t := hI.val 2 78 (by decide) rfl (dp 2 (by decide))
      have V6 : a.tmps.getD 82 undef = .slice ca cn cc := hI.val 6 82 (by decide) rfl (dp 6 (by decide))
      obtain rfl := hI.world.2.2.1 (dp 6 (by decide)) hl
      refine wpOp_call (f := 10) (args := #[.pointer (some ⟨b, 0, none⟩), .string t, .slice ca cn cc]) ho e4 (by simp [execOp, e3, resolve, invoke, Deferred.ofValue, r10, ev, evf, evc, V0, V2, V6]) (kc.mono ?_)
      rintro e W' ⟨qa, ql, qc, rfl, hq, hp⟩
      refine ⟨_, rfl, ?_⟩
      rw [e2]
      refine hI.put hi rfl (Nat.lt_of_lt_of_le (by decide) hs) (inj 83 rfl) ?_ ⟨qa, ql, qc, rfl, hq⟩ (fun j u hj hlj hne hf => (by
        have nj : j ≠ 7 ∧ j ≠ 8 ∧ j ≠ 9 ∧ j ≠ 11 := ⟨(fun e => by subst e; have z0 := hlj; rw [hl] at z0; cases z0), (fun e => by subst e; have z0 := hlj; have z1 := hcl.dep' o8 z0 7 (by decide); rw [hl] at z1; cases z1), (fun e => by subst e; have z0 := hlj; have z1 := hcl.dep' o9 z0 8 (by decide); have z2 := hcl.dep' o8 z1 7 (by decide); rw [hl] at z2; cases z2), (fun e => by subst e; have z0 := hlj; have z1 := hcl.dep' o11 z0 9 (by decide); have z2 := hcl.dep' o9 z1 8 (by decide); have z3 := hcl.dep' o8 z2 7 (by decide); rw [hl] at z3; cases z3)⟩
        revert hf
        unfold plF
        split <;> first | exact fun x => x | (intro _; exfalso; omega)))
      show plR w0 _ P1 P2 _ _
      unfold plR
      dsimp only
      rw [sam, oth 3 (by decide), oth 6 (by decide)]
      exact ⟨(fun h => by rw [hcl.dep' o6 (dp 6 (by decide)) 3 (by decide)] at h; cases h), (fun _ h => by rw [dp 6 (by decide)] at h; cases h), (fun _ h => by cases h), fun _ => hp⟩
    · obtain ⟨o', e1, e2, e3, e4, e5⟩ := o8
      obtain rfl := Option.some.inj (ho.symm.trans e1)
      have dp := dep_of' e5 hdep
      obtain ⟨qa7, ql7, qc7, V7, qp7⟩ : ∃ (qa : Option Addr) (ql qc : Nat), a.tmps.getD 83 undef = .tuple #[.slice qa ql qc, .int .i64 E] ∧ Post qa ql qc w := hI.val 7 83 (by decide) rfl (dp 7 (by decide))
      exact wpOp_value (v := .tuple #[.slice qa7 ql7 qc7, .int .i64 E]) (w' := w) ho e4 (by simp [execOp, e3, ev, V7]) (by rw [e2]; exact go rfl (by decide) ⟨_, _, _, rfl, qp7⟩)
    · obtain ⟨o', e1, e2, e3, e4, e5⟩ := o9
      obtain rfl := Option.some.inj (ho.symm.trans e1)
      have dp := dep_of' e5 hdep
      obtain ⟨qa8, ql8, qc8, V8, qp8⟩ : ∃ (qa : Option Addr) (ql qc : Nat), a.tmps.getD 75 undef = .tuple #[.slice qa ql qc, .int .i64 E] ∧ Post qa ql qc w := hI.val 8 75 (by decide) rfl (dp 8 (by decide))
      exact wpOp_value (v := .slice qa8 ql8 qc8) (w' := w) ho e4 (by simp [execOp, e3, ev, V8, run_ext0]) (by rw [e2]; exact go rfl (by decide) ⟨_, _, _, rfl, qp8⟩)
    · obtain ⟨o', e1, e2, e3, e4, e5⟩ := o10
      obtain rfl := Option.some.inj (ho.symm.trans e1)
      have dp := dep_of' e5 hdep
      obtain ⟨qa8, ql8, qc8, V8, qp8⟩ : ∃ (qa : Option Addr) (ql qc : Nat), a.tmps.getD 75 undef = .tuple #[.slice qa ql qc, .int .i64 E] ∧ Post qa ql qc w := hI.val 8 75 (by decide) rfl (dp 8 (by decide))
      exact wpOp_value (v := .int .i64 E) (w' := w) ho e4 (by simp [execOp, e3, ev, evc, V8, run_ext1]) (by rw [e2]; exact go rfl (by decide) rfl)
    · obtain ⟨o', e1, e2, e3, e4, e5⟩ := o11
      obtain rfl := Option.some.inj (ho.symm.trans e1)
      have dp := dep_of' e5 hdep
      obtain ⟨qa9, ql9, qc9, V9, qp9⟩ : ∃ (qa : Option Addr) (ql qc : Nat), a.tmps.getD 84 undef = .slice qa ql qc ∧ Post qa ql qc w := hI.val 9 84 (by decide) rfl (dp 9 (by decide))
      exact wpOp_value (v := .slice qa9 ql9 qc9) (w' := w) ho e4 (by simp [execOp, e3, ev, V9]) (by rw [e2]; exact go rfl (by decide) ⟨_, _, _, rfl, qp9⟩)
    · obtain ⟨o', e1, e2, e3, e4, e5⟩ := o12
      obtain rfl := Option.some.inj (ho.symm.trans e1)
      have dp := dep_of' e5 hdep
      have V10 : a.tmps.getD 85 undef = .int .i64 E := hI.val 10 85 (by decide) rfl (dp 10 (by decide))
      exact wpOp_value (v := .int .i64 E) (w' := w) ho e4 (by simp [execOp, e3, ev, evc, V10]) (by rw [e2]; exact go rfl (by decide) rfl)
  · intro l a w hall hI
    have all : ∀ j, j < 13 → l j = true := fun j hj => hall j (by rw [hsz]; exact hj)
    exact fin a w hI.size hI.defers hI.kept (fun i d hi hD => hI.val i d hi hD (all i hi)) (hI.world.2.2.2 (all 7 (by decide)))

end Go.Proofs.Ytjbocoheognneaa
