/- The document's list without one: the region. -/
import Derived.Test.YtkjmlbllpnehlaaRows
import Derived.Test.YtkjmlbllpnehlaaView
import Derived.Test.YtkjmlbllpnehlaaOwn
import Derived.Test.YtkjmlbllpnehlaaBase
import Derived.Test.YtkjmlbllpnehlaaInvIn
import Derived.WalkKit
import Derived.ProofKit
import Derived.OpenShut
import Derived.Below
import Derived.WalkLawsBesides
import Derived.Deep.QuietTactic
import Derived.BigQuiet
import Derived.Orders
namespace Go.Proofs.Ytkjmlbllpnehlaa
set_option maxRecDepth 20000
open Go.ChangeShapes Go.WideShapes Go.ChangeAt Go.RowKit
set_option linter.unusedVariables false
set_option linter.unusedSimpArgs false

def ouD (i : Nat) : Option Nat := match i with | 0 => some 4 | 1 => some 5 | 2 => some 6 | 3 => some 7 | 4 => some 8 | 5 => some 9 | 6 => some 10 | 7 => some 11 | 8 => some 12 | 9 => some 13 | 10 => some 14 | 11 => some 15 | 12 => some 16 | 13 => some 17 | 14 => some 18 | 15 => some 19 | 16 => some 20 | 17 => some 21 | 18 => some 22 | _ => none
theorem ouD_inj : ∀ i, i < 20 → ∀ j, j < 20 → ouD i = ouD j → ouD i ≠ none → i = j := by decide
theorem ouD_lt : ∀ i, i < 20 → ∀ d, ouD i = some d → d < 23 := by
  intro i hi d h
  have : ∀ i, i < 20 → (ouD i).all (fun d => decide (d < 23)) = true := by decide
  have := this i hi
  rw [h] at this
  simpa using this
def ouF (y g0 : Nat) (K0 K1 : Int) (sa : Option Addr) (sn sc : Nat) (ta : Option Addr) (tn tc : Nat) (ua : Option Addr) (un uc : Nat) (va : Option Addr) (vn vc : Nat) (da : Option Addr) (dn dc : Nat) (i : Nat) (q : Value) : Prop := match i with
  | 0 => q = .pointer (some ⟨y, 0, none⟩)
  | 1 => q = .slice (some ⟨g0, 0, none⟩) 0 0
  | 2 => q = .pointer (some ⟨y, 0, none⟩)
  | 3 => q = .pointer (some ⟨y, 0, none⟩)
  | 4 => q = .pointer (some ⟨y, 2, none⟩)
  | 5 => q = .slice sa sn sc
  | 6 => q = .int .i64 K0
  | 7 => q = .slice ta tn tc
  | 8 => q = .slice va vn vc
  | 9 => q = .pointer (some ⟨y, 0, none⟩)
  | 10 => q = .pointer (some ⟨y, 0, none⟩)
  | 11 => q = .pointer (some ⟨y, 2, none⟩)
  | 12 => q = .slice sa sn sc
  | 13 => q = .int .i64 K0
  | 14 => q = .int .i64 K1
  | 15 => q = .slice ua un uc
  | 16 => q = .slice da dn dc
  | 17 => q = .pointer (some ⟨y, 0, none⟩)
  | 18 => q = .pointer (some ⟨y, 2, none⟩)
  | _ => True
def ouR (w0 W1 W2 W3 W4 : World) (l : Nat → Bool) (w : World) : Prop := (l 1 = false → w = w0.drew) ∧ (l 1 = true → l 8 = false → w = W1) ∧ (l 8 = true → l 16 = false → w = W2) ∧ (l 16 = true → l 19 = false → w = W3) ∧ (l 19 = true → w = W4)

set_option maxHeartbeats 8000000 in
theorem ou_region {id : Nat} {ops : Array Oper} {Q : Exit → Act → World → Prop} {a0 : Act} {w0 : World} (y g0 : Nat) (K0 K1 : Int) (sa : Option Addr) (sn sc : Nat) (ta : Option Addr) (tn tc : Nat) (ua : Option Addr) (un uc : Nat) (va : Option Addr) (vn vc : Nat) (da : Option Addr) (dn dc : Nat) (W1 W2 W3 W4 : World) (S : World → Prop) (hlow : lowB ops = true) (hsz : ops.size = 20)
    (o0 : OpIn ops 0 (some 4) (.move (.tmp 0)) none []) (o1 : OpIn ops 1 (some 5) (.buildSlice 45 0 #[]) none []) (o2 : OpIn ops 2 (some 6) (.move (.tmp 0)) none []) (o3 : OpIn ops 3 (some 7) (.nilCheck (.tmp 6)) none [2]) (o4 : OpIn ops 4 (some 8) (.fieldAddr 57 (.tmp 7) 2) none [3]) (o5 : OpIn ops 5 (some 9) (.load 45 (.tmp 8)) none [4]) (o6 : OpIn ops 6 (some 10) (.move (.tmp 1)) none []) (o7 : OpIn ops 7 (some 11) (.slice 45 (.tmp 9) none (some (.tmp 10)) none) none [5, 6]) (o8 : OpIn ops 8 (some 12) (.call { callee := .builtin .append, args := #[.tmp 5, .tmp 11], argTypes := #[45, 45] }) none [1, 7]) (o9 : OpIn ops 9 (some 13) (.move (.tmp 0)) none []) (o10 : OpIn ops 10 (some 14) (.nilCheck (.tmp 13)) none [9]) (o11 : OpIn ops 11 (some 15) (.fieldAddr 57 (.tmp 14) 2) none [10]) (o12 : OpIn ops 12 (some 16) (.load 45 (.tmp 15)) none [11]) (o13 : OpIn ops 13 (some 17) (.move (.tmp 1)) none []) (o14 : OpIn ops 14 (some 18) (.binOp .add 3 (.tmp 17) (.const (.int .i64 1)) 3) none [13]) (o15 : OpIn ops 15 (some 19) (.slice 45 (.tmp 16) (some (.tmp 18)) none none) none [12, 14]) (o16 : OpIn ops 16 (some 20) (.call { callee := .builtin .append, args := #[.tmp 12, .tmp 19], argTypes := #[45, 45] }) none [8, 15]) (o17 : OpIn ops 17 (some 21) (.nilCheck (.tmp 4)) none [0]) (o18 : OpIn ops 18 (some 22) (.fieldAddr 57 (.tmp 21) 2) none [17]) (o19 : OpIn ops 19 none (.store 45 (.tmp 22) (.tmp 20)) none [16, 18])
    (ty8 : TypeId) (hty8 : ∀ o, ops[8]? = some o → o.type = ty8)
    (ty16 : TypeId) (hty16 : ∀ o, ops[16]? = some o → o.type = ty16)
    (hS0 : S (w0.drew)) (hS1 : S (W1)) (hS2 : S (W2)) (hS3 : S (W3))
    (x1 : (Instr.buildSlice 45 0 #[]).run Try.prog (w0.drew) = .ok (.slice (some ⟨g0, 0, none⟩) 0 0) W1)
    (x4 : ∀ w, (Instr.fieldAt 57 (.pointer (some ⟨y, 0, none⟩)) 2).run Try.prog w = .ok (.pointer (some ⟨y, 2, none⟩)) w)
    (x5 : ∀ w, S w → (Instr.loadAt 45 (.pointer (some ⟨y, 2, none⟩))).run Try.prog w = .ok (.slice sa sn sc) w)
    (x7 : ∀ w, (Instr.sliceAt 45 (.slice sa sn sc) none (some (.int .i64 K0)) none).run Try.prog w = .ok (.slice ta tn tc) w)
    (x8 : (Builtin.append_ #[45, 45] ty8 #[.slice (some ⟨g0, 0, none⟩) 0 0, .slice ta tn tc]).run Try.prog (W1) = .ok (.slice va vn vc) W2)
    (x11 : ∀ w, (Instr.fieldAt 57 (.pointer (some ⟨y, 0, none⟩)) 2).run Try.prog w = .ok (.pointer (some ⟨y, 2, none⟩)) w)
    (x12 : ∀ w, S w → (Instr.loadAt 45 (.pointer (some ⟨y, 2, none⟩))).run Try.prog w = .ok (.slice sa sn sc) w)
    (x14 : ∀ w, (binOp .add 3 (.int .i64 K0) (.int .i64 1)).run Try.prog w = .ok (.int .i64 K1) w)
    (x15 : ∀ w, (Instr.sliceAt 45 (.slice sa sn sc) (some (.int .i64 K1)) none none).run Try.prog w = .ok (.slice ua un uc) w)
    (x16 : (Builtin.append_ #[45, 45] ty16 #[.slice va vn vc, .slice ua un uc]).run Try.prog (W2) = .ok (.slice da dn dc) W3)
    (x18 : ∀ w, (Instr.fieldAt 57 (.pointer (some ⟨y, 0, none⟩)) 2).run Try.prog w = .ok (.pointer (some ⟨y, 2, none⟩)) w)
    (x19 : (Instr.storeAt 45 (.pointer (some ⟨y, 2, none⟩)) (.slice da dn dc)).run Try.prog (W3) = .ok () W4)
    (u0 : a0.tmps.getD 0 undef = .pointer (some ⟨y, 0, none⟩))
    (u1 : a0.tmps.getD 1 undef = .int .i64 K0)
    (hs : 23 ≤ a0.tmps.size)
    (fin : ∀ a, a.tmps.size = a0.tmps.size → a.defers = a0.defers → (∀ s, (∀ i, i < 20 → ouD i ≠ some s) → a.tmps.getD s undef = a0.tmps.getD s undef) → (∀ i d, i < 20 → ouD i = some d → ouF y g0 K0 K1 sa sn sc ta tn tc ua un uc va vn vc da dn dc i (a.tmps.getD d undef)) → Q .normal a W4) : (Code.region id ops true).wp Try.prog Q a0 w0 := by
  refine wp_region_inv2 (by kernel_rfl) hlow (Inv 20 ouD a0 (fun l _ w => ouR w0 W1 W2 W3 W4 l w) (fun _ i q _ => ouF y g0 K0 K1 sa sn sc ta tn tc ua un uc va vn vc da dn dc i q)) (Inv.start ⟨fun _ => rfl, (fun h => by cases h), (fun h => by cases h), (fun h => by cases h), (fun h => by cases h)⟩) ?_ ?_
  · intro l i o a w ho hl hcl hdep hI
    have hi : i < 20 := by rw [← hsz]; exact (Array.getElem?_eq_some_iff.1 ho).1
    have ev : ∀ (s : Nat), a.eval (.tmp s) = a.tmps.getD s undef := fun _ => rfl
    have evc : ∀ c : Value, a.eval (.const c) = c := fun _ => rfl
    have inj : ∀ d, ouD i = some d → ∀ j d', j < 20 → ouD j = some d' → j ≠ i → d' ≠ d := fun d hd j d' hj hd' hne e => hne (ouD_inj j hj i hi (by rw [hd', hd, e]) (by rw [hd']; simp))
    have kp : ∀ s, (∀ i, i < 20 → ouD i ≠ some s) → a.tmps.getD s undef = a0.tmps.getD s undef := hI.kept
    have oth : ∀ j, j ≠ i → (l j || j == i) = l j := fun j hj => by rw [show (j == i) = false by simp [hj], Bool.or_false]
    have sam : (l i || i == i) = true := by simp
    have go : ∀ {d : Nat} {v : Value}, ouD i = some d → (i ≠ 1 ∧ i ≠ 8 ∧ i ≠ 16 ∧ i ≠ 19) → ouF y g0 K0 K1 sa sn sc ta tn tc ua un uc va vn vc da dn dc i v → Inv 20 ouD a0 (fun l _ w => ouR w0 W1 W2 W3 W4 l w) (fun _ i q _ => ouF y g0 K0 K1 sa sn sc ta tn tc ua un uc va vn vc da dn dc i q) (fun j => l j || j == i) (a.put (some d) v) w := by
      intro d v hD hi' hF
      refine hI.put hi hD (Nat.lt_of_lt_of_le (ouD_lt i hi d hD) hs) (inj d hD) ?_ hF (fun j u _ _ _ hf => hf)
      show ouR w0 W1 W2 W3 W4 _ w
      unfold ouR
      dsimp only
      rw [oth 1 (by omega), oth 8 (by omega), oth 16 (by omega), oth 19 (by omega)]
      exact hI.world
    have hSw : l 19 = false → S w := fun hc => by
      cases e0 : l 1 with
      | false => rw [hI.world.1 e0]; exact hS0
      | true =>
        cases e1 : l 8 with
        | false => rw [hI.world.2.1 e0 e1]; exact hS1
        | true =>
          cases e2 : l 16 with
          | false => rw [hI.world.2.2.1 e1 e2]; exact hS2
          | true =>
            rw [hI.world.2.2.2.1 e2 hc]; exact hS3
    rcases (show i = 0 ∨ i = 1 ∨ i = 2 ∨ i = 3 ∨ i = 4 ∨ i = 5 ∨ i = 6 ∨ i = 7 ∨ i = 8 ∨ i = 9 ∨ i = 10 ∨ i = 11 ∨ i = 12 ∨ i = 13 ∨ i = 14 ∨ i = 15 ∨ i = 16 ∨ i = 17 ∨ i = 18 ∨ i = 19 by omega) with rfl | rfl | rfl | rfl | rfl | rfl | rfl | rfl | rfl | rfl | rfl | rfl | rfl | rfl | rfl | rfl | rfl | rfl | rfl | rfl
    · obtain ⟨o', e1, e2, e3, e4, e5⟩ := o0
      obtain rfl := Option.some.inj (ho.symm.trans e1)
      have dp := dep_of' e5 hdep
      have U0 : a.tmps.getD 0 undef = .pointer (some ⟨y, 0, none⟩) := (kp 0 (by decide)).trans u0
      exact wpOp_value (v := .pointer (some ⟨y, 0, none⟩)) (w' := w) ho e4 (by simp [execOp, e3, ev, evc, U0]) (by rw [e2]; exact go rfl (by decide) rfl)
    · obtain ⟨o', e1, e2, e3, e4, e5⟩ := o1
      obtain rfl := Option.some.inj (ho.symm.trans e1)
      have dp := dep_of' e5 hdep
      have n8 : l 8 = false := by
        cases e : l 8 with
        | false => rfl
        | true =>
          exfalso
          have y0 := hcl.dep' o8 e 1 (by decide)
          rw [hl] at y0
          cases y0
      have n16 : l 16 = false := by
        cases e : l 16 with
        | false => rfl
        | true =>
          exfalso
          have y0 := hcl.dep' o16 e 8 (by decide)
          have y1 := hcl.dep' o8 y0 1 (by decide)
          rw [hl] at y1
          cases y1
      have n19 : l 19 = false := by
        cases e : l 19 with
        | false => rfl
        | true =>
          exfalso
          have y0 := hcl.dep' o19 e 16 (by decide)
          have y1 := hcl.dep' o16 y0 8 (by decide)
          have y2 := hcl.dep' o8 y1 1 (by decide)
          rw [hl] at y2
          cases y2
      obtain rfl : w = w0.drew := hI.world.1 hl
      refine wpOp_value (v := .slice (some ⟨g0, 0, none⟩) 0 0) (w' := W1) ho e4 (by simp [execOp, e3, ev, evc, x1]) ?_
      rw [e2]
      refine hI.put hi rfl (Nat.lt_of_lt_of_le (by decide) hs) (inj 5 rfl) ?_ rfl (fun j u _ _ _ hf => hf)
      show ouR _ _ _ _ _ _ _
      unfold ouR
      dsimp only
      rw [sam, oth 8 (by decide), oth 16 (by decide), oth 19 (by decide)]
      exact ⟨(fun h => by cases h), (fun _ _ => rfl), (fun h => by rw [n8] at h; cases h), (fun h => by rw [n16] at h; cases h), (fun h => by rw [n19] at h; cases h)⟩
    · obtain ⟨o', e1, e2, e3, e4, e5⟩ := o2
      obtain rfl := Option.some.inj (ho.symm.trans e1)
      have dp := dep_of' e5 hdep
      have U0 : a.tmps.getD 0 undef = .pointer (some ⟨y, 0, none⟩) := (kp 0 (by decide)).trans u0
      exact wpOp_value (v := .pointer (some ⟨y, 0, none⟩)) (w' := w) ho e4 (by simp [execOp, e3, ev, evc, U0]) (by rw [e2]; exact go rfl (by decide) rfl)
    · obtain ⟨o', e1, e2, e3, e4, e5⟩ := o3
      obtain rfl := Option.some.inj (ho.symm.trans e1)
      have dp := dep_of' e5 hdep
      have V2 : a.tmps.getD 6 undef = .pointer (some ⟨y, 0, none⟩) := hI.val 2 6 (by decide) rfl (dp 2 (by decide))
      exact wpOp_value (v := .pointer (some ⟨y, 0, none⟩)) (w' := w) ho e4 (by simp [execOp, e3, ev, evc, V2]) (by rw [e2]; exact go rfl (by decide) rfl)
    · obtain ⟨o', e1, e2, e3, e4, e5⟩ := o4
      obtain rfl := Option.some.inj (ho.symm.trans e1)
      have dp := dep_of' e5 hdep
      have V3 : a.tmps.getD 7 undef = .pointer (some ⟨y, 0, none⟩) := hI.val 3 7 (by decide) rfl (dp 3 (by decide))
      exact wpOp_value (v := .pointer (some ⟨y, 2, none⟩)) (w' := w) ho e4 (by simp [execOp, e3, ev, evc, V3, x4 w]) (by rw [e2]; exact go rfl (by decide) rfl)
    · obtain ⟨o', e1, e2, e3, e4, e5⟩ := o5
      obtain rfl := Option.some.inj (ho.symm.trans e1)
      have dp := dep_of' e5 hdep
      have V4 : a.tmps.getD 8 undef = .pointer (some ⟨y, 2, none⟩) := hI.val 4 8 (by decide) rfl (dp 4 (by decide))
      have n19 : l 19 = false := by
        cases e : l 19 with
        | false => rfl
        | true =>
          exfalso
          have y0 := hcl.dep' o19 e 16 (by decide)
          have y1 := hcl.dep' o16 y0 8 (by decide)
          have y2 := hcl.dep' o8 y1 7 (by decide)
          have y3 := hcl.dep' o7 y2 5 (by decide)
          rw [hl] at y3
          cases y3
      exact wpOp_value (v := .slice sa sn sc) (w' := w) ho e4 (by simp [execOp, e3, ev, evc, V4, x5 w (hSw n19)]) (by rw [e2]; exact go rfl (by decide) rfl)
    · obtain ⟨o', e1, e2, e3, e4, e5⟩ := o6
      obtain rfl := Option.some.inj (ho.symm.trans e1)
      have dp := dep_of' e5 hdep
      have U1 : a.tmps.getD 1 undef = .int .i64 K0 := (kp 1 (by decide)).trans u1
      exact wpOp_value (v := .int .i64 K0) (w' := w) ho e4 (by simp [execOp, e3, ev, evc, U1]) (by rw [e2]; exact go rfl (by decide) rfl)
    · obtain ⟨o', e1, e2, e3, e4, e5⟩ := o7
      obtain rfl := Option.some.inj (ho.symm.trans e1)
      have dp := dep_of' e5 hdep
      have V5 : a.tmps.getD 9 undef = .slice sa sn sc := hI.val 5 9 (by decide) rfl (dp 5 (by decide))
      have V6 : a.tmps.getD 10 undef = .int .i64 K0 := hI.val 6 10 (by decide) rfl (dp 6 (by decide))
      exact wpOp_value (v := .slice ta tn tc) (w' := w) ho e4 (by simp [execOp, e3, ev, evc, V5, V6, x7 w]) (by rw [e2]; exact go rfl (by decide) rfl)
    · obtain ⟨o', e1, e2, e3, e4, e5⟩ := o8
      obtain rfl := Option.some.inj (ho.symm.trans e1)
      have dp := dep_of' e5 hdep
      have V1 : a.tmps.getD 5 undef = .slice (some ⟨g0, 0, none⟩) 0 0 := hI.val 1 5 (by decide) rfl (dp 1 (by decide))
      have V7 : a.tmps.getD 11 undef = .slice ta tn tc := hI.val 7 11 (by decide) rfl (dp 7 (by decide))
      have n16 : l 16 = false := by
        cases e : l 16 with
        | false => rfl
        | true =>
          exfalso
          have y0 := hcl.dep' o16 e 8 (by decide)
          rw [hl] at y0
          cases y0
      have n19 : l 19 = false := by
        cases e : l 19 with
        | false => rfl
        | true =>
          exfalso
          have y0 := hcl.dep' o19 e 16 (by decide)
          have y1 := hcl.dep' o16 y0 8 (by decide)
          rw [hl] at y1
          cases y1
      have z1_0 := dp 1 (by decide)
      have d1 : l 1 = true := z1_0
      obtain rfl : w = W1 := hI.world.2.1 d1 hl
      refine wpOp_value (v := .slice va vn vc) (w' := W2) ho e4 (by simp only [execOp, e3, resolve, invoke, builtin, Sem.run_bind, Sem.run_pure, Result.andThen_ok, List.map_toArray, List.map_cons, List.map_nil, ev, V1, V7, hty8 _ ho, x8]) ?_
      rw [e2]
      refine hI.put hi rfl (Nat.lt_of_lt_of_le (by decide) hs) (inj 12 rfl) ?_ rfl (fun j u _ _ _ hf => hf)
      show ouR _ _ _ _ _ _ _
      unfold ouR
      dsimp only
      rw [sam, oth 1 (by decide), oth 16 (by decide), oth 19 (by decide)]
      exact ⟨(fun h => by rw [d1] at h; cases h), (fun _ h => by cases h), (fun _ _ => rfl), (fun h => by rw [n16] at h; cases h), (fun h => by rw [n19] at h; cases h)⟩
    · obtain ⟨o', e1, e2, e3, e4, e5⟩ := o9
      obtain rfl := Option.some.inj (ho.symm.trans e1)
      have dp := dep_of' e5 hdep
      have U0 : a.tmps.getD 0 undef = .pointer (some ⟨y, 0, none⟩) := (kp 0 (by decide)).trans u0
      exact wpOp_value (v := .pointer (some ⟨y, 0, none⟩)) (w' := w) ho e4 (by simp [execOp, e3, ev, evc, U0]) (by rw [e2]; exact go rfl (by decide) rfl)
    · obtain ⟨o', e1, e2, e3, e4, e5⟩ := o10
      obtain rfl := Option.some.inj (ho.symm.trans e1)
      have dp := dep_of' e5 hdep
      have V9 : a.tmps.getD 13 undef = .pointer (some ⟨y, 0, none⟩) := hI.val 9 13 (by decide) rfl (dp 9 (by decide))
      exact wpOp_value (v := .pointer (some ⟨y, 0, none⟩)) (w' := w) ho e4 (by simp [execOp, e3, ev, evc, V9]) (by rw [e2]; exact go rfl (by decide) rfl)
    · obtain ⟨o', e1, e2, e3, e4, e5⟩ := o11
      obtain rfl := Option.some.inj (ho.symm.trans e1)
      have dp := dep_of' e5 hdep
      have V10 : a.tmps.getD 14 undef = .pointer (some ⟨y, 0, none⟩) := hI.val 10 14 (by decide) rfl (dp 10 (by decide))
      exact wpOp_value (v := .pointer (some ⟨y, 2, none⟩)) (w' := w) ho e4 (by simp [execOp, e3, ev, evc, V10, x11 w]) (by rw [e2]; exact go rfl (by decide) rfl)
    · obtain ⟨o', e1, e2, e3, e4, e5⟩ := o12
      obtain rfl := Option.some.inj (ho.symm.trans e1)
      have dp := dep_of' e5 hdep
      have V11 : a.tmps.getD 15 undef = .pointer (some ⟨y, 2, none⟩) := hI.val 11 15 (by decide) rfl (dp 11 (by decide))
      have n19 : l 19 = false := by
        cases e : l 19 with
        | false => rfl
        | true =>
          exfalso
          have y0 := hcl.dep' o19 e 16 (by decide)
          have y1 := hcl.dep' o16 y0 15 (by decide)
          have y2 := hcl.dep' o15 y1 12 (by decide)
          rw [hl] at y2
          cases y2
      exact wpOp_value (v := .slice sa sn sc) (w' := w) ho e4 (by simp [execOp, e3, ev, evc, V11, x12 w (hSw n19)]) (by rw [e2]; exact go rfl (by decide) rfl)
    · obtain ⟨o', e1, e2, e3, e4, e5⟩ := o13
      obtain rfl := Option.some.inj (ho.symm.trans e1)
      have dp := dep_of' e5 hdep
      have U1 : a.tmps.getD 1 undef = .int .i64 K0 := (kp 1 (by decide)).trans u1
      exact wpOp_value (v := .int .i64 K0) (w' := w) ho e4 (by simp [execOp, e3, ev, evc, U1]) (by rw [e2]; exact go rfl (by decide) rfl)
    · obtain ⟨o', e1, e2, e3, e4, e5⟩ := o14
      obtain rfl := Option.some.inj (ho.symm.trans e1)
      have dp := dep_of' e5 hdep
      have V13 : a.tmps.getD 17 undef = .int .i64 K0 := hI.val 13 17 (by decide) rfl (dp 13 (by decide))
      exact wpOp_value (v := .int .i64 K1) (w' := w) ho e4 (by simp [execOp, e3, ev, evc, V13, x14 w, eqGuard]) (by rw [e2]; exact go rfl (by decide) rfl)
    · obtain ⟨o', e1, e2, e3, e4, e5⟩ := o15
      obtain rfl := Option.some.inj (ho.symm.trans e1)
      have dp := dep_of' e5 hdep
      have V12 : a.tmps.getD 16 undef = .slice sa sn sc := hI.val 12 16 (by decide) rfl (dp 12 (by decide))
      have V14 : a.tmps.getD 18 undef = .int .i64 K1 := hI.val 14 18 (by decide) rfl (dp 14 (by decide))
      exact wpOp_value (v := .slice ua un uc) (w' := w) ho e4 (by simp [execOp, e3, ev, evc, V12, V14, x15 w]) (by rw [e2]; exact go rfl (by decide) rfl)
    · obtain ⟨o', e1, e2, e3, e4, e5⟩ := o16
      obtain rfl := Option.some.inj (ho.symm.trans e1)
      have dp := dep_of' e5 hdep
      have V8 : a.tmps.getD 12 undef = .slice va vn vc := hI.val 8 12 (by decide) rfl (dp 8 (by decide))
      have V15 : a.tmps.getD 19 undef = .slice ua un uc := hI.val 15 19 (by decide) rfl (dp 15 (by decide))
      have n19 : l 19 = false := by
        cases e : l 19 with
        | false => rfl
        | true =>
          exfalso
          have y0 := hcl.dep' o19 e 16 (by decide)
          rw [hl] at y0
          cases y0
      have z1_0 := dp 8 (by decide)
      have z1_1 := hcl.dep' o8 z1_0 1 (by decide)
      have d1 : l 1 = true := z1_1
      have z8_0 := dp 8 (by decide)
      have d8 : l 8 = true := z8_0
      obtain rfl : w = W2 := hI.world.2.2.1 d8 hl
      refine wpOp_value (v := .slice da dn dc) (w' := W3) ho e4 (by simp only [execOp, e3, resolve, invoke, builtin, Sem.run_bind, Sem.run_pure, Result.andThen_ok, List.map_toArray, List.map_cons, List.map_nil, ev, V8, V15, hty16 _ ho, x16]) ?_
      rw [e2]
      refine hI.put hi rfl (Nat.lt_of_lt_of_le (by decide) hs) (inj 20 rfl) ?_ rfl (fun j u _ _ _ hf => hf)
      show ouR _ _ _ _ _ _ _
      unfold ouR
      dsimp only
      rw [sam, oth 1 (by decide), oth 8 (by decide), oth 19 (by decide)]
      exact ⟨(fun h => by rw [d1] at h; cases h), (fun _ h => by rw [d8] at h; cases h), (fun _ h => by cases h), (fun _ _ => rfl), (fun h => by rw [n19] at h; cases h)⟩
    · obtain ⟨o', e1, e2, e3, e4, e5⟩ := o17
      obtain rfl := Option.some.inj (ho.symm.trans e1)
      have dp := dep_of' e5 hdep
      have V0 : a.tmps.getD 4 undef = .pointer (some ⟨y, 0, none⟩) := hI.val 0 4 (by decide) rfl (dp 0 (by decide))
      exact wpOp_value (v := .pointer (some ⟨y, 0, none⟩)) (w' := w) ho e4 (by simp [execOp, e3, ev, evc, V0]) (by rw [e2]; exact go rfl (by decide) rfl)
    · obtain ⟨o', e1, e2, e3, e4, e5⟩ := o18
      obtain rfl := Option.some.inj (ho.symm.trans e1)
      have dp := dep_of' e5 hdep
      have V17 : a.tmps.getD 21 undef = .pointer (some ⟨y, 0, none⟩) := hI.val 17 21 (by decide) rfl (dp 17 (by decide))
      exact wpOp_value (v := .pointer (some ⟨y, 2, none⟩)) (w' := w) ho e4 (by simp [execOp, e3, ev, evc, V17, x18 w]) (by rw [e2]; exact go rfl (by decide) rfl)
    · obtain ⟨o', e1, e2, e3, e4, e5⟩ := o19
      obtain rfl := Option.some.inj (ho.symm.trans e1)
      have dp := dep_of' e5 hdep
      have V16 : a.tmps.getD 20 undef = .slice da dn dc := hI.val 16 20 (by decide) rfl (dp 16 (by decide))
      have V18 : a.tmps.getD 22 undef = .pointer (some ⟨y, 2, none⟩) := hI.val 18 22 (by decide) rfl (dp 18 (by decide))
      have z1_0 := dp 16 (by decide)
      have z1_1 := hcl.dep' o16 z1_0 8 (by decide)
      have z1_2 := hcl.dep' o8 z1_1 1 (by decide)
      have d1 : l 1 = true := z1_2
      have z8_0 := dp 16 (by decide)
      have z8_1 := hcl.dep' o16 z8_0 8 (by decide)
      have d8 : l 8 = true := z8_1
      have z16_0 := dp 16 (by decide)
      have d16 : l 16 = true := z16_0
      obtain rfl : w = W3 := hI.world.2.2.2.1 d16 hl
      refine wpOp_skip (w' := W4) ho e4 (by simp [execOp, e3, ev, evc, V16, V18, x19]) ?_
      rw [e2]
      refine hI.none_ rfl ?_ (fun j u _ _ _ hf => hf)
      show ouR _ _ _ _ _ _ _
      unfold ouR
      dsimp only
      rw [sam, oth 1 (by decide), oth 8 (by decide), oth 16 (by decide)]
      exact ⟨(fun h => by rw [d1] at h; cases h), (fun _ h => by rw [d8] at h; cases h), (fun _ h => by rw [d16] at h; cases h), (fun _ h => by cases h), (fun _ => rfl)⟩
  · intro l a w hall hI
    have all : ∀ j, j < 20 → l j = true := fun j hj => hall j (by rw [hsz]; exact hj)
    obtain rfl := hI.world.2.2.2.2 (all 19 (by decide))
    exact fin a hI.size hI.defers hI.kept (fun i d hi hD => hI.val i d hi hD (all i hi))

end Go.Proofs.Ytkjmlbllpnehlaa
