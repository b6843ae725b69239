/- The region in which Place puts a weight, whatever the order of its operations. -/
import Derived.Test.YtfggkkhehaafcaaRows
import Derived.Test.YtfggkkhehaafcaaPages
import Derived.Test.YtfggkkhehaafcaaInvIn
import Derived.WalkKit
import Derived.ProofKit
import Derived.OpenShut
import Derived.Below
import Derived.WalkLawsBesides
import Derived.Deep.QuietTactic
import Derived.BigQuiet
import Derived.RangeFuncNested
import Derived.RangeFuncBox
import Derived.RangeFuncBound
import Derived.RangeFuncCalls
import Derived.RangeFuncLeaves
import Derived.Shelf.Abstract
import Derived.Shelf.RegionOpen
import Derived.OwnWalkIn
import Derived.TacticsInMore
import Derived.LoopNIn
import Derived.LoopIn
import Derived.Orders
import Derived.OrdersIn
namespace Go.Proofs.Ytfggkkhehaafcaa
open Go.ChangeShapes Go.WideShapes Go.ChangeAt Go.RowKit
set_option linter.unusedVariables false

theorem run_load24 {w : World} {p : Addr} {q : Option Addr} (h : w.cell? p = some (.pointer q)) : (Instr.loadAt 24 (.pointer (some p))).run Try.prog w = .ok (.pointer q) w := by go_simp
theorem run_load37 {w : World} {p : Addr} {a : Option Addr} {n c : Nat} (h : w.cell? p = some (.slice a n c)) : (Instr.loadAt 37 (.pointer (some p))).run Try.prog w = .ok (.slice a n c) w := by go_simp
theorem run_load3 {w : World} {p : Addr} {z : Int} (h : w.cell? p = some (.int .i64 z)) : (Instr.loadAt 3 (.pointer (some p))).run Try.prog w = .ok (.int .i64 z) w := by go_simp
theorem run_load59 {w : World} {p : Addr} {z : Int} (h : w.cell? p = some (.int .i8 z)) : (Instr.loadAt 59 (.pointer (some p))).run Try.prog w = .ok (.int .i8 z) w := by go_simp
theorem run_index31 (y : Addr) (L c N : Nat) (h : N < L) (w : World) : (Instr.indexAt 37 (.slice (some y) L c) (.int .i64 (N : Int))).run Try.prog w = .ok (.pointer (some (y.add N))) w := by
  have h' : (N : Int) < (L : Int) := by omega
  go_simp
theorem run_conv (V : Int) (hv : IntKind.i64.wrap V = V) (w : World) : (convert 59 2 (.int .i8 V)).run Try.prog w = .ok (.int .i64 V) w := by go_simp

def prD (i : Nat) : Option Nat := match i with | 0 => some 31 | 1 => some 32 | 2 => some 33 | 3 => some 34 | 4 => some 35 | 5 => some 36 | 6 => some 37 | 7 => some 38 | 8 => some 39 | _ => none
theorem prD_inj : ∀ i, i < 9 → ∀ j, j < 9 → prD i = prD j → prD i ≠ none → i = j := by decide
theorem prD_lt : ∀ i, i < 9 → ∀ d, prD i = some d → d < 40 := by
  intro i hi d h
  have : ∀ i, i < 9 → (prD i).all (fun d => decide (d < 40)) = true := by decide
  have := this i hi
  rw [h] at this
  simpa using this
def prF (b : Nat) (x1 x2 : Int) (y : Addr) (L c N : Nat) (V E : Int) (i : Nat) (q : Value) : Prop := match i with
  | 0 => q = .pointer (some ⟨b, 0, none⟩)
  | 1 => q = .int .i64 x1
  | 2 => q = .int .i64 x2
  | 3 => q = .slice (some y) L c
  | 4 => q = .int .i64 (N : Int)
  | 5 => q = .pointer (some (y.add N))
  | 6 => q = .int .i8 V
  | 7 => q = .int .i64 V
  | 8 => q = .int .i64 E
  | _ => True

set_option maxHeartbeats 4000000 in
theorem put_region {n id : Nat} {ops : Array Oper} {Q : Exit → Act → World → Prop} {a0 : Act} {w0 : World} (l0 : Nat) (b b3 b5 nb : Nat) (x1 x2 : Int) (y : Addr) (L c N : Nat) (V E : Int) (Post : World → Prop) (hlow : lowB ops = true) (hsz : ops.size = 9)
    (o0 : OpIn ops 0 (some 31) (.load 24 (.tmp 3)) none []) (o1 : OpIn ops 1 (some 32) (.move (.tmp 11)) none []) (o2 : OpIn ops 2 (some 33) (.move (.tmp 12)) none []) (o3 : OpIn ops 3 (some 34) (.load 37 (.tmp 5)) none []) (o4 : OpIn ops 4 (some 35) (.load 3 (.tmp 10)) none []) (o5 : OpIn ops 5 (some 36) (.indexAddr 37 (.tmp 34) (.tmp 35)) none [3, 4]) (o6 : OpIn ops 6 (some 37) (.load 59 (.tmp 36)) none [5]) (o7 : OpIn ops 7 (some 38) (.convert 59 2 (.tmp 37)) none [6]) (o8 : OpIn ops 8 (some 39) (.call { callee := .value (.func 83), args := #[.tmp 31, .tmp 32, .tmp 33, .tmp 38], argTypes := #[24, 3, 3, 2] }) none [0, 1, 2, 7])
    (h3 : a0.tmps.getD 3 undef = .pointer (some ⟨b3, 0, none⟩)) (h5 : a0.tmps.getD 5 undef = .pointer (some ⟨b5, 0, none⟩)) (h10 : a0.tmps.getD 10 undef = .pointer (some ⟨nb, 0, none⟩)) (h11 : a0.tmps.getD 11 undef = .int .i64 x1) (h12 : a0.tmps.getD 12 undef = .int .i64 x2)
    (c3 : w0.drew.cell? ⟨b3, 0, none⟩ = some (.pointer (some ⟨b, 0, none⟩))) (c5 : w0.drew.cell? ⟨b5, 0, none⟩ = some (.slice (some y) L c)) (cn : w0.drew.cell? ⟨nb, 0, none⟩ = some (.int .i64 (N : Int))) (cv : w0.drew.cell? (y.add N) = some (.int .i8 V)) (hN : N < L) (hv : IntKind.i64.wrap V = V)
    (kP : Calls Try.prog 83 #[.pointer (some ⟨b, 0, none⟩), .int .i64 x1, .int .i64 x2, .int .i64 V] w0.drew fun e w' => e = .returned (.int .i64 E) ∧ Post w')
    (hs : 40 ≤ a0.tmps.size)
    (fin : ∀ a w, a.tmps.size = a0.tmps.size → a.defers = a0.defers → (∀ s, (∀ i, i < 9 → prD i ≠ some s) → a.tmps.getD s undef = a0.tmps.getD s undef) → (∀ i d, i < 9 → prD i = some d → prF b x1 x2 y L c N V E i (a.tmps.getD d undef)) → Post w → Q .normal a w) :
    (Code.region id ops true).wpIn (Fence.wide.inRound l0) n Try.prog Q a0 w0 := by
  have r20 : ∀ args w, (callFunc 83 args).run Try.prog w = .ok (.enter 83 args) w := enters_of Try.func83 (by kernel_rfl) rfl
  refine wpIn_region_inv2 (by kernel_rfl) hlow (Inv 9 prD a0 (fun l _ w => (l 8 = false → w = w0.drew) ∧ (l 8 = true → Post w)) (fun _ i q _ => prF b x1 x2 y L c N V E i q)) (Inv.start ⟨fun _ => rfl, fun h => by cases h⟩) ?_ ?_
  · intro l i o a w ho hl hcl hdep hI
    have hi : i < 9 := by rw [← hsz]; exact (Array.getElem?_eq_some_iff.1 ho).1
    have ev : ∀ (s : Nat), a.eval (.tmp s) = a.tmps.getD s undef := fun _ => rfl
    have evf : ∀ f, a.eval (.func f) = .func (.func f) #[] #[] := fun _ => rfl
    have evc : ∀ c : Value, a.eval (.const c) = c := fun _ => rfl
    have inj : ∀ d, prD i = some d → ∀ j d', j < 9 → prD j = some d' → j ≠ i → d' ≠ d := fun d hd j d' hj hd' hne e => hne (prD_inj j hj i hi (by rw [hd', hd, e]) (by rw [hd']; simp))
    have kp : ∀ s, (∀ i, i < 9 → prD i ≠ some s) → a.tmps.getD s undef = a0.tmps.getD s undef := hI.kept
    have oth : ∀ j, j ≠ i → (l j || j == i) = l j := fun j hj => by rw [show (j == i) = false by simp [hj], Bool.or_false]
    have l8 : i ≠ 8 → l 8 = false := by
      intro hne
      cases e : l 8 with
      | false => rfl
      | true =>
        exfalso
        have z := hcl.dep' o8 e
        have z0 := z 0 (by decide)
        have z1 := z 1 (by decide)
        have z2 := z 2 (by decide)
        have z7 := z 7 (by decide)
        have z6 := hcl.dep' o7 z7 6 (by decide)
        have z5 := hcl.dep' o6 z6 5 (by decide)
        have z3 := hcl.dep' o5 z5 3 (by decide)
        have z4 := hcl.dep' o5 z5 4 (by decide)
        rcases (show i = 0 ∨ i = 1 ∨ i = 2 ∨ i = 3 ∨ i = 4 ∨ i = 5 ∨ i = 6 ∨ i = 7 by omega) with rfl | rfl | rfl | rfl | rfl | rfl | rfl | rfl <;> simp_all
    have go : ∀ {d : Nat} {v : Value}, prD i = some d → i ≠ 8 → prF b x1 x2 y L c N V E i v → Inv 9 prD a0 (fun l _ w => (l 8 = false → w = w0.drew) ∧ (l 8 = true → Post w)) (fun _ i q _ => prF b x1 x2 y L c N V E i q) (fun j => l j || j == i) (a.put (some d) v) w := by
      intro d v hD hne hF
      refine hI.put hi hD (Nat.lt_of_lt_of_le (prD_lt i hi d hD) hs) (inj d hD) ⟨fun h => hI.world.1 (l8 hne), fun h => ?_⟩ hF (fun j u _ _ _ hf => hf)
      dsimp only at h
      rw [oth 8 (Ne.symm hne), l8 hne] at h
      cases h
    rcases (show i = 0 ∨ i = 1 ∨ i = 2 ∨ i = 3 ∨ i = 4 ∨ i = 5 ∨ i = 6 ∨ i = 7 ∨ i = 8 by omega) with rfl | rfl | rfl | rfl | rfl | rfl | rfl | rfl | rfl
    · obtain ⟨o', e1, e2, e3, e4, e5⟩ := o0
      obtain rfl := Option.some.inj (ho.symm.trans e1)
      have dp := dep_of' e5 hdep
      obtain rfl : w = w0.drew := hI.world.1 (l8 (by decide))
      exact wpOpIn_value (v := .pointer (some ⟨b, 0, none⟩)) (w' := w0.drew) ho e4 (by rw [e3]; simp) (by rw [e3]; simp) (by simp [execOp, e3, ev, kp 3 (by decide), h3, run_load24 c3]) (by rw [e2]; exact go rfl (by decide) rfl)
    · obtain ⟨o', e1, e2, e3, e4, e5⟩ := o1
      obtain rfl := Option.some.inj (ho.symm.trans e1)
      have dp := dep_of' e5 hdep
      obtain rfl : w = w0.drew := hI.world.1 (l8 (by decide))
      exact wpOpIn_value (v := .int .i64 x1) (w' := w0.drew) ho e4 (by rw [e3]; simp) (by rw [e3]; simp) (by simp [execOp, e3, ev, kp 11 (by decide), h11]) (by rw [e2]; exact go rfl (by decide) rfl)
    · obtain ⟨o', e1, e2, e3, e4, e5⟩ := o2
      obtain rfl := Option.some.inj (ho.symm.trans e1)
      have dp := dep_of' e5 hdep
      obtain rfl : w = w0.drew := hI.world.1 (l8 (by decide))
      exact wpOpIn_value (v := .int .i64 x2) (w' := w0.drew) ho e4 (by rw [e3]; simp) (by rw [e3]; simp) (by simp [execOp, e3, ev, kp 12 (by decide), h12]) (by rw [e2]; exact go rfl (by decide) rfl)
    · obtain ⟨o', e1, e2, e3, e4, e5⟩ := o3
      obtain rfl := Option.some.inj (ho.symm.trans e1)
      have dp := dep_of' e5 hdep
      obtain rfl : w = w0.drew := hI.world.1 (l8 (by decide))
      exact wpOpIn_value (v := .slice (some y) L c) (w' := w0.drew) ho e4 (by rw [e3]; simp) (by rw [e3]; simp) (by simp [execOp, e3, ev, kp 5 (by decide), h5, run_load37 c5]) (by rw [e2]; exact go rfl (by decide) rfl)
    · obtain ⟨o', e1, e2, e3, e4, e5⟩ := o4
      obtain rfl := Option.some.inj (ho.symm.trans e1)
      have dp := dep_of' e5 hdep
      obtain rfl : w = w0.drew := hI.world.1 (l8 (by decide))
      exact wpOpIn_value (v := .int .i64 (N : Int)) (w' := w0.drew) ho e4 (by rw [e3]; simp) (by rw [e3]; simp) (by simp [execOp, e3, ev, kp 10 (by decide), h10, run_load3 cn]) (by rw [e2]; exact go rfl (by decide) rfl)
    · obtain ⟨o', e1, e2, e3, e4, e5⟩ := o5
      obtain rfl := Option.some.inj (ho.symm.trans e1)
      have dp := dep_of' e5 hdep
      obtain rfl : w = w0.drew := hI.world.1 (l8 (by decide))
      have V3 : a.tmps.getD 34 undef = .slice (some y) L c := hI.val 3 34 (by decide) rfl (dp 3 (by decide))
      have V4 : a.tmps.getD 35 undef = .int .i64 (N : Int) := hI.val 4 35 (by decide) rfl (dp 4 (by decide))
      exact wpOpIn_value (v := .pointer (some (y.add N))) (w' := w0.drew) ho e4 (by rw [e3]; simp) (by rw [e3]; simp) (by simp [execOp, e3, ev, V3, V4, run_index31 y L c N hN]) (by rw [e2]; exact go rfl (by decide) rfl)
    · obtain ⟨o', e1, e2, e3, e4, e5⟩ := o6
      obtain rfl := Option.some.inj (ho.symm.trans e1)
      have dp := dep_of' e5 hdep
      obtain rfl : w = w0.drew := hI.world.1 (l8 (by decide))
      have V5 : a.tmps.getD 36 undef = .pointer (some (y.add N)) := hI.val 5 36 (by decide) rfl (dp 5 (by decide))
      exact wpOpIn_value (v := .int .i8 V) (w' := w0.drew) ho e4 (by rw [e3]; simp) (by rw [e3]; simp) (by simp [execOp, e3, ev, V5, run_load59 cv]) (by rw [e2]; exact go rfl (by decide) rfl)
    · obtain ⟨o', e1, e2, e3, e4, e5⟩ := o7
      obtain rfl := Option.some.inj (ho.symm.trans e1)
      have dp := dep_of' e5 hdep
      obtain rfl : w = w0.drew := hI.world.1 (l8 (by decide))
      have V6 : a.tmps.getD 37 undef = .int .i8 V := hI.val 6 37 (by decide) rfl (dp 6 (by decide))
      exact wpOpIn_value (v := .int .i64 V) (w' := w0.drew) ho e4 (by rw [e3]; simp) (by rw [e3]; simp) (by simp [execOp, e3, ev, V6, run_conv V hv]) (by rw [e2]; exact go rfl (by decide) rfl)
    · obtain ⟨o', e1, e2, e3, e4, e5⟩ := o8
      obtain rfl := Option.some.inj (ho.symm.trans e1)
      have dp := dep_of' e5 hdep
      obtain rfl : w = w0.drew := hI.world.1 hl
      have V0 : a.tmps.getD 31 undef = .pointer (some ⟨b, 0, none⟩) := hI.val 0 31 (by decide) rfl (dp 0 (by decide))
      have V1 : a.tmps.getD 32 undef = .int .i64 x1 := hI.val 1 32 (by decide) rfl (dp 1 (by decide))
      have V2 : a.tmps.getD 33 undef = .int .i64 x2 := hI.val 2 33 (by decide) rfl (dp 2 (by decide))
      have V7 : a.tmps.getD 38 undef = .int .i64 V := hI.val 7 38 (by decide) rfl (dp 7 (by decide))
      refine wpOpIn_call l0 (f := 83) (args := #[.pointer (some ⟨b, 0, none⟩), .int .i64 x1, .int .i64 x2, .int .i64 V]) ho e4 (by rw [e3]; simp) (by simp [execOp, e3, resolve, invoke, Deferred.ofValue, r20, ev, evf, V0, V1, V2, V7]) (kP.mono ?_)
      rintro e W' ⟨rfl, hp⟩
      refine ⟨_, rfl, ?_⟩
      rw [e2]
      refine hI.put hi rfl (Nat.lt_of_lt_of_le (by decide) hs) (inj 39 rfl) ⟨fun h => by simp at h, fun _ => hp⟩ rfl (fun j u _ _ _ hf => hf)
  · intro l a w hall hI
    have all : ∀ j, j < 9 → l j = true := fun j hj => hall j (by rw [hsz]; exact hj)
    exact fin a w hI.size hI.defers hI.kept (fun i d hi hD => hI.val i d hi hD (all i hi)) (hI.world.2 (all 8 (by decide)))

end Go.Proofs.Ytfggkkhehaafcaa
