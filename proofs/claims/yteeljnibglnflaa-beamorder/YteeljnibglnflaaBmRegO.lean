/- Regions that look at a beam, whatever the order. -/
import Derived.Test.YteeljnibglnflaaRows
import Derived.Test.YteeljnibglnflaaView
import Derived.Test.YteeljnibglnflaaGInvIn
import Derived.Test.YteeljnibglnflaaBmReg
import Derived.Test.YteeljnibglnflaaBmZ
import Derived.Test.YteeljnibglnflaaBmAt
import Derived.Test.YteeljnibglnflaaBmSwap
import Derived.Test.YteeljnibglnflaaBmBox
import Derived.Test.YteeljnibglnflaaBmRegG
import Derived.WalkKit
import Derived.ProofKit
import Derived.OpenShut
import Derived.WalkLawsBesides
import Derived.Below
import Derived.Deep.QuietTactic
import Derived.BigQuiet
import Derived.Laws.AppendOwnNone
import Derived.Orders
namespace Go.Proofs.Yteeljnibglnflaa
set_option maxRecDepth 20000
open Go.ChangeShapes Go.WideShapes Go.ChangeAt Go.RowKit
set_option linter.unusedVariables false
set_option linter.unusedSimpArgs false

theorem wpOp_unw {P : Program} {ops : Array Oper} {Q : Exit → Act → World → Prop} {i gi p : Nat} {bb : Bool} {o og : Oper} {a : Act} {w : World} {K : Act → World → Prop} (ho : ops[i]? = some o) (hg : o.guard = some (gi, bb)) (hgo : ops[gi]? = some og) (hgd : og.dst = some p) (hp : p < a.tmps.size) (hb : a.tmps.getD p undef = .bool (!bb))
    (hK : K (a.put o.dst undef) w) : wpOp P ops Q i K a w := by
  have hy : yielded ops a.tmps gi = some (!bb) := by
    unfold yielded
    rw [hgo]
    simp only [Option.bind_some, hgd]
    rw [Array.getD_eq_getD_getElem?] at hb
    rw [Array.getElem?_eq_getElem hp] at hb ⊢
    simp only [Option.getD_some] at hb
    rw [hb]
  unfold wpOp
  simp only [ho]
  have hw : Region.wanted o (yielded ops a.tmps) = false := by cases bb <;> simp [Region.wanted, hg, hy]
  rw [if_neg (by rw [hw]; decide)]
  exact hK
def oaD (i : Nat) : Option Nat := match i with | 0 => some 62 | 1 => some 63 | 2 => some 64 | 3 => some 65 | 4 => some 66 | 5 => some 67 | 6 => some 68 | 7 => some 69 | 8 => some 70 | 9 => some 71 | 10 => some 72 | 11 => some 73 | 12 => some 74 | 13 => some 75 | 14 => some 76 | 15 => some 77 | 16 => some 78 | 17 => some 79 | 18 => some 80 | 19 => some 81 | 20 => some 82 | 21 => some 83 | 22 => some 84 | 23 => some 85 | 24 => some 86 | 25 => some 87 | 26 => some 88 | 27 => some 89 | 28 => some 90 | 29 => some 91 | 30 => some 92 | 31 => some 93 | 32 => some 94 | _ => none
theorem oaD_inj : ∀ i, i < 33 → ∀ j, j < 33 → oaD i = oaD j → oaD i ≠ none → i = j := by decide
theorem oaD_lt : ∀ i, i < 33 → ∀ d, oaD i = some d → d < 192 := by
  intro i hi d h
  have : ∀ i, i < 33 → (oaD i).all (fun d => decide (d < 192)) = true := by decide
  have := this i hi
  rw [h] at this
  simpa using this
def oaF (bx nn qn kk pp lcc ycc ydd : Nat) (XL XT XP : Addr) (i : Nat) (q : Value) (w : World) : Prop := match i with
  | 0 => q = .slice (some XP) qn ydd
  | 1 => q = .int .i64 (kk : Nat)
  | 2 => q = .pointer (some (XP.add kk))
  | 3 => q = .int .i64 (pp : Nat)
  | 4 => q = .bool false
  | 5 => q = .bool false
  | 6 => q = .slice (some XP) qn ydd
  | 7 => q = .int .i64 (kk : Nat)
  | 8 => q = .pointer (some (XP.add kk))
  | 9 => q = .int .i64 (pp : Nat)
  | 10 => q = .pointer (some ⟨bx, 0, none⟩)
  | 11 => q = .slice (some XL) nn lcc
  | 12 => q = .int .i64 (nn : Nat)
  | 13 => q = .bool false
  | 14 => q = .bool false
  | 15 => q = .bool false
  | 16 => q = .int .i64 (kk : Nat)
  | 17 => q = .bool false
  | 18 => q = .bool false
  | 19 => q = undef
  | 20 => q = undef
  | 21 => q = undef
  | 22 => q = undef
  | 23 => q = undef
  | 24 => q = undef
  | 25 => q = undef
  | 26 => q = undef
  | 27 => q = undef
  | 28 => q = undef
  | 29 => q = undef
  | 30 => q = undef
  | 31 => q = .bool false
  | 32 => q = .bool false
  | _ => True
theorem oaF_below {bx nn qn kk pp lcc ycc ydd : Nat} {XL XT XP : Addr} {i : Nat} {q : Value} {w w' : World} (h : oaF bx nn qn kk pp lcc ycc ydd XL XT XP i q w) (hb : Below w.heap.size w w') : oaF bx nn qn kk pp lcc ycc ydd XL XT XP i q w' := by
  unfold oaF at h ⊢
  split
  · exact h
  · exact h
  · exact h
  · exact h
  · exact h
  · exact h
  · exact h
  · exact h
  · exact h
  · exact h
  · exact h
  · exact h
  · exact h
  · exact h
  · exact h
  · exact h
  · exact h
  · exact h
  · exact h
  · exact h
  · exact h
  · exact h
  · exact h
  · exact h
  · exact h
  · exact h
  · exact h
  · exact h
  · exact h
  · exact h
  · exact h
  · exact h
  · exact h
  · trivial

set_option maxHeartbeats 8000000 in
theorem oa_region {id : Nat} {ops : Array Oper} {Q : Exit → Act → World → Prop} {a0 : Act} {w0 : World} (bx nn qn kk pp lcc ycc ydd : Nat) (XL XT XP : Addr) (S : World → Prop) (hlow : lowB ops = true) (hsz : ops.size = 33)
    (o0 : OpIn ops 0 (some 62) (.move (.tmp 4)) none []) (o1 : OpIn ops 1 (some 63) (.move (.tmp 6)) none []) (o2 : OpIn ops 2 (some 64) (.indexAddr 29 (.tmp 62) (.tmp 63)) none [0, 1]) (o3 : OpIn ops 3 (some 65) (.load 3 (.tmp 64)) none [2]) (o4 : OpIn ops 4 (some 66) (.binOp .lss 3 (.tmp 65) (.const (.int .i64 0)) 3) none [3]) (o5 : OpIn ops 5 (some 67) (.move (.tmp 66)) none [4]) (o6 : OpIn ops 6 (some 68) (.move (.tmp 4)) (some (5, false)) [5]) (o7 : OpIn ops 7 (some 69) (.move (.tmp 6)) (some (5, false)) [5]) (o8 : OpIn ops 8 (some 70) (.indexAddr 29 (.tmp 68) (.tmp 69)) (some (5, false)) [5, 6, 7]) (o9 : OpIn ops 9 (some 71) (.load 3 (.tmp 70)) (some (5, false)) [5, 8]) (o10 : OpIn ops 10 (some 72) (.fieldAddr 25 (.tmp 1) 0) (some (5, false)) [5]) (o11 : OpIn ops 11 (some 73) (.load 22 (.tmp 72)) (some (5, false)) [5, 10]) (o12 : OpIn ops 12 (some 74) (.call { callee := .builtin .len, args := #[.tmp 73], argTypes := #[22] }) (some (5, false)) [5, 11]) (o13 : OpIn ops 13 (some 75) (.binOp .geq 3 (.tmp 71) (.tmp 74) 3) (some (5, false)) [5, 9, 12]) (o14 : OpIn ops 14 (some 76) (.pick (.tmp 67) (.const (.bool true)) (.tmp 75)) none [5, 13]) (o15 : OpIn ops 15 (some 77) (.move (.tmp 76)) none [14]) (o16 : OpIn ops 16 (some 78) (.move (.tmp 6)) (some (15, false)) [15]) (o17 : OpIn ops 17 (some 79) (.binOp .gtr 3 (.tmp 78) (.const (.int .i64 0)) 3) (some (15, false)) [15, 16]) (o18 : OpIn ops 18 (some 80) (.move (.tmp 79)) (some (15, false)) [15, 17]) (o19 : OpIn ops 19 (some 81) (.move (.tmp 3)) (some (18, true)) [18]) (o20 : OpIn ops 20 (some 82) (.move (.tmp 6)) (some (18, true)) [18]) (o21 : OpIn ops 21 (some 83) (.indexAddr 27 (.tmp 81) (.tmp 82)) (some (18, true)) [18, 19, 20]) (o22 : OpIn ops 22 (some 84) (.fieldAddr 40 (.tmp 83) 1) (some (18, true)) [18, 21]) (o23 : OpIn ops 23 (some 85) (.load 2 (.tmp 84)) (some (18, true)) [18, 22]) (o24 : OpIn ops 24 (some 86) (.move (.tmp 3)) (some (18, true)) [18]) (o25 : OpIn ops 25 (some 87) (.move (.tmp 6)) (some (18, true)) [18]) (o26 : OpIn ops 26 (some 88) (.binOp .sub 3 (.tmp 87) (.const (.int .i64 1)) 3) (some (18, true)) [18, 25]) (o27 : OpIn ops 27 (some 89) (.indexAddr 27 (.tmp 86) (.tmp 88)) (some (18, true)) [18, 24, 26]) (o28 : OpIn ops 28 (some 90) (.fieldAddr 40 (.tmp 89) 1) (some (18, true)) [18, 27]) (o29 : OpIn ops 29 (some 91) (.load 2 (.tmp 90)) (some (18, true)) [18, 28]) (o30 : OpIn ops 30 (some 92) (.binOp .gtr 2 (.tmp 85) (.tmp 91) 2) (some (18, true)) [18, 23, 29]) (o31 : OpIn ops 31 (some 93) (.pick (.tmp 80) (.tmp 92) (.const (.bool false))) (some (15, false)) [15, 18, 30]) (o32 : OpIn ops 32 (some 94) (.pick (.tmp 77) (.const (.bool true)) (.tmp 93)) none [15, 31])
    (hS : S w0.drew)
    (x2 : ∀ w, (Instr.indexAt 29 (.slice (some XP) qn ydd) (.int .i64 (kk : Nat))).run Try.prog w = .ok (.pointer (some (XP.add kk))) w)
    (x3 : ∀ w, S w → (Instr.loadAt 3 (.pointer (some (XP.add kk)))).run Try.prog w = .ok (.int .i64 (pp : Nat)) w)
    (x4 : ∀ w, (binOp .lss 3 (.int .i64 (pp : Nat)) (.int .i64 0)).run Try.prog w = .ok (.bool false) w)
    (x8 : ∀ w, (Instr.indexAt 29 (.slice (some XP) qn ydd) (.int .i64 (kk : Nat))).run Try.prog w = .ok (.pointer (some (XP.add kk))) w)
    (x9 : ∀ w, S w → (Instr.loadAt 3 (.pointer (some (XP.add kk)))).run Try.prog w = .ok (.int .i64 (pp : Nat)) w)
    (x10 : ∀ w, (Instr.fieldAt 25 (.pointer (some ⟨bx, 0, none⟩)) 0).run Try.prog w = .ok (.pointer (some ⟨bx, 0, none⟩)) w)
    (x11 : ∀ w, S w → (Instr.loadAt 22 (.pointer (some ⟨bx, 0, none⟩))).run Try.prog w = .ok (.slice (some XL) nn lcc) w)
    (x13 : ∀ w, (binOp .geq 3 (.int .i64 (pp : Nat)) (.int .i64 (nn : Nat))).run Try.prog w = .ok (.bool false) w)
    (x17 : ∀ w, (binOp .gtr 3 (.int .i64 (kk : Nat)) (.int .i64 0)).run Try.prog w = .ok (.bool false) w)
    (u1 : a0.tmps.getD 1 undef = .pointer (some ⟨bx, 0, none⟩))
    (u3 : a0.tmps.getD 3 undef = .slice (some XT) qn ycc)
    (u4 : a0.tmps.getD 4 undef = .slice (some XP) qn ydd)
    (u6 : a0.tmps.getD 6 undef = .int .i64 (kk : Nat))
    (hs : 192 ≤ a0.tmps.size)
    (fin : ∀ a w, a.tmps.size = a0.tmps.size → a.defers = a0.defers → (∀ s, (∀ i, i < 33 → oaD i ≠ some s) → a.tmps.getD s undef = a0.tmps.getD s undef) → S w → (∀ i d, i < 33 → oaD i = some d → oaF bx nn qn kk pp lcc ycc ydd XL XT XP i (a.tmps.getD d undef) w) → Q .normal a w) : (Code.region id ops true).wp Try.prog Q a0 w0 := by
  refine wp_region_inv2 (by kernel_rfl) hlow (Inv 33 oaD a0 (fun l a w => S w ∧ Kept2 33 oaD a0 l a) (fun _ => oaF bx nn qn kk pp lcc ycc ydd XL XT XP)) (Inv.start ⟨hS, kept2_start _ _ _⟩) ?_ ?_
  · intro l i o a w ho hl hcl hdep hI
    have hi : i < 33 := by rw [← hsz]; exact (Array.getElem?_eq_some_iff.1 ho).1
    have ev : ∀ (s : Nat), a.eval (.tmp s) = a.tmps.getD s undef := fun _ => rfl
    have evf : ∀ f, a.eval (.func f) = .func (.func f) #[] #[] := fun _ => rfl
    have evc : ∀ c : Value, a.eval (.const c) = c := fun _ => rfl
    have inj : ∀ d, oaD i = some d → ∀ j d', j < 33 → oaD j = some d' → j ≠ i → d' ≠ d := fun d hd j d' hj hd' hne e => hne (oaD_inj j hj i hi (by rw [hd', hd, e]) (by rw [hd']; simp))
    have kp : ∀ s, (∀ i, i < 33 → oaD i ≠ some s) → a.tmps.getD s undef = a0.tmps.getD s undef := hI.kept
    have hw : S w := hI.world.1
    have k2 := hI.world.2
    have ex0 := hI.world.2
    have go : ∀ {d : Nat} {v : Value} {w' : World}, oaD i = some d → Below w.heap.size w w' → S w' → oaF bx nn qn kk pp lcc ycc ydd XL XT XP i v w' → Inv 33 oaD a0 (fun l a w => S w ∧ Kept2 33 oaD a0 l a) (fun _ => oaF bx nn qn kk pp lcc ycc ydd XL XT XP) (fun j => l j || j == i) (a.put (some d) v) w' := by
      intro d v w' hD hb hS' hF
      exact hI.put hi hD (Nat.lt_of_lt_of_le (oaD_lt i hi d hD) hs) (inj d hD) ⟨hS', k2.put hD (by rw [hI.size]; exact Nat.lt_of_lt_of_le (oaD_lt i hi d hD) hs) hi⟩ hF (fun j u _ _ _ hf => oaF_below hf hb)
    rcases (show i = 0 ∨ i = 1 ∨ i = 2 ∨ i = 3 ∨ i = 4 ∨ i = 5 ∨ i = 6 ∨ i = 7 ∨ i = 8 ∨ i = 9 ∨ i = 10 ∨ i = 11 ∨ i = 12 ∨ i = 13 ∨ i = 14 ∨ i = 15 ∨ i = 16 ∨ i = 17 ∨ i = 18 ∨ i = 19 ∨ i = 20 ∨ i = 21 ∨ i = 22 ∨ i = 23 ∨ i = 24 ∨ i = 25 ∨ i = 26 ∨ i = 27 ∨ i = 28 ∨ i = 29 ∨ i = 30 ∨ i = 31 ∨ i = 32 by omega) with rfl | rfl | rfl | rfl | rfl | rfl | rfl | rfl | rfl | rfl | rfl | rfl | rfl | rfl | rfl | rfl | rfl | rfl | rfl | rfl | rfl | rfl | rfl | rfl | rfl | rfl | rfl | rfl | rfl | rfl | rfl | rfl | rfl
    · obtain ⟨o', e1, e2, e3, e4, e5⟩ := o0
      obtain rfl := Option.some.inj (ho.symm.trans e1)
      have dp := dep_of' e5 hdep
      have U4 : a.tmps.getD 4 undef = .slice (some XP) qn ydd := (kp 4 (by decide)).trans u4
      exact wpOp_value (v := .slice (some XP) qn ydd) (w' := w) ho e4 (by simp [execOp, e3, ev, evc, U4]) (by rw [e2]; exact go rfl (Below.refl _ _) hw rfl)
    · obtain ⟨o', e1, e2, e3, e4, e5⟩ := o1
      obtain rfl := Option.some.inj (ho.symm.trans e1)
      have dp := dep_of' e5 hdep
      have U6 : a.tmps.getD 6 undef = .int .i64 (kk : Nat) := (kp 6 (by decide)).trans u6
      exact wpOp_value (v := .int .i64 (kk : Nat)) (w' := w) ho e4 (by simp [execOp, e3, ev, evc, U6]) (by rw [e2]; exact go rfl (Below.refl _ _) hw rfl)
    · obtain ⟨o', e1, e2, e3, e4, e5⟩ := o2
      obtain rfl := Option.some.inj (ho.symm.trans e1)
      have dp := dep_of' e5 hdep
      have V0 : a.tmps.getD 62 undef = .slice (some XP) qn ydd := hI.val 0 62 (by decide) rfl (dp 0 (by decide))
      have V1 : a.tmps.getD 63 undef = .int .i64 (kk : Nat) := hI.val 1 63 (by decide) rfl (dp 1 (by decide))
      exact wpOp_value (v := .pointer (some (XP.add kk))) (w' := w) ho e4 (by simp [execOp, e3, ev, evc, V0, V1, x2 w]) (by rw [e2]; exact go rfl (Below.refl _ _) hw rfl)
    · obtain ⟨o', e1, e2, e3, e4, e5⟩ := o3
      obtain rfl := Option.some.inj (ho.symm.trans e1)
      have dp := dep_of' e5 hdep
      have V2 : a.tmps.getD 64 undef = .pointer (some (XP.add kk)) := hI.val 2 64 (by decide) rfl (dp 2 (by decide))
      exact wpOp_value (v := .int .i64 (pp : Nat)) (w' := w) ho e4 (by simp [execOp, e3, ev, evc, V2, x3 w hw]) (by rw [e2]; exact go rfl (Below.refl _ _) hw rfl)
    · obtain ⟨o', e1, e2, e3, e4, e5⟩ := o4
      obtain rfl := Option.some.inj (ho.symm.trans e1)
      have dp := dep_of' e5 hdep
      have V3 : a.tmps.getD 65 undef = .int .i64 (pp : Nat) := hI.val 3 65 (by decide) rfl (dp 3 (by decide))
      exact wpOp_value (v := .bool false) (w' := w) ho e4 (by simp [execOp, e3, ev, evc, V3, x4 w, eqGuard]) (by rw [e2]; exact go rfl (Below.refl _ _) hw rfl)
    · obtain ⟨o', e1, e2, e3, e4, e5⟩ := o5
      obtain rfl := Option.some.inj (ho.symm.trans e1)
      have dp := dep_of' e5 hdep
      have V4 : a.tmps.getD 66 undef = .bool false := hI.val 4 66 (by decide) rfl (dp 4 (by decide))
      exact wpOp_value (v := .bool false) (w' := w) ho e4 (by simp [execOp, e3, ev, evc, V4]) (by rw [e2]; exact go rfl (Below.refl _ _) hw rfl)
    · obtain ⟨o', e1, e2, e3, e4, e5⟩ := o6
      obtain rfl := Option.some.inj (ho.symm.trans e1)
      have dp := dep_of' e5 hdep
      have V5 : a.tmps.getD 67 undef = .bool false := hI.val 5 67 (by decide) rfl (dp 5 (by decide))
      have U4 : a.tmps.getD 4 undef = .slice (some XP) qn ydd := (kp 4 (by decide)).trans u4
      obtain ⟨og, g1, g2, -, -, -⟩ := o5
      exact wpOp_value_b (v := .slice (some XP) qn ydd) (w' := w) ho e4 g1 g2 (by rw [hI.size]; exact Nat.lt_of_lt_of_le (by decide) hs) V5 (by simp [execOp, e3, ev, evc, V5, U4]) (by rw [e2]; exact go rfl (Below.refl _ _) hw rfl)
    · obtain ⟨o', e1, e2, e3, e4, e5⟩ := o7
      obtain rfl := Option.some.inj (ho.symm.trans e1)
      have dp := dep_of' e5 hdep
      have V5 : a.tmps.getD 67 undef = .bool false := hI.val 5 67 (by decide) rfl (dp 5 (by decide))
      have U6 : a.tmps.getD 6 undef = .int .i64 (kk : Nat) := (kp 6 (by decide)).trans u6
      obtain ⟨og, g1, g2, -, -, -⟩ := o5
      exact wpOp_value_b (v := .int .i64 (kk : Nat)) (w' := w) ho e4 g1 g2 (by rw [hI.size]; exact Nat.lt_of_lt_of_le (by decide) hs) V5 (by simp [execOp, e3, ev, evc, V5, U6]) (by rw [e2]; exact go rfl (Below.refl _ _) hw rfl)
    · obtain ⟨o', e1, e2, e3, e4, e5⟩ := o8
      obtain rfl := Option.some.inj (ho.symm.trans e1)
      have dp := dep_of' e5 hdep
      have V5 : a.tmps.getD 67 undef = .bool false := hI.val 5 67 (by decide) rfl (dp 5 (by decide))
      have V6 : a.tmps.getD 68 undef = .slice (some XP) qn ydd := hI.val 6 68 (by decide) rfl (dp 6 (by decide))
      have V7 : a.tmps.getD 69 undef = .int .i64 (kk : Nat) := hI.val 7 69 (by decide) rfl (dp 7 (by decide))
      obtain ⟨og, g1, g2, -, -, -⟩ := o5
      exact wpOp_value_b (v := .pointer (some (XP.add kk))) (w' := w) ho e4 g1 g2 (by rw [hI.size]; exact Nat.lt_of_lt_of_le (by decide) hs) V5 (by simp [execOp, e3, ev, evc, V5, V6, V7, x8 w]) (by rw [e2]; exact go rfl (Below.refl _ _) hw rfl)
    · obtain ⟨o', e1, e2, e3, e4, e5⟩ := o9
      obtain rfl := Option.some.inj (ho.symm.trans e1)
      have dp := dep_of' e5 hdep
      have V5 : a.tmps.getD 67 undef = .bool false := hI.val 5 67 (by decide) rfl (dp 5 (by decide))
      have V8 : a.tmps.getD 70 undef = .pointer (some (XP.add kk)) := hI.val 8 70 (by decide) rfl (dp 8 (by decide))
      obtain ⟨og, g1, g2, -, -, -⟩ := o5
      exact wpOp_value_b (v := .int .i64 (pp : Nat)) (w' := w) ho e4 g1 g2 (by rw [hI.size]; exact Nat.lt_of_lt_of_le (by decide) hs) V5 (by simp [execOp, e3, ev, evc, V5, V8, x9 w hw]) (by rw [e2]; exact go rfl (Below.refl _ _) hw rfl)
    · obtain ⟨o', e1, e2, e3, e4, e5⟩ := o10
      obtain rfl := Option.some.inj (ho.symm.trans e1)
      have dp := dep_of' e5 hdep
      have V5 : a.tmps.getD 67 undef = .bool false := hI.val 5 67 (by decide) rfl (dp 5 (by decide))
      have U1 : a.tmps.getD 1 undef = .pointer (some ⟨bx, 0, none⟩) := (kp 1 (by decide)).trans u1
      obtain ⟨og, g1, g2, -, -, -⟩ := o5
      exact wpOp_value_b (v := .pointer (some ⟨bx, 0, none⟩)) (w' := w) ho e4 g1 g2 (by rw [hI.size]; exact Nat.lt_of_lt_of_le (by decide) hs) V5 (by simp [execOp, e3, ev, evc, V5, U1, x10 w]) (by rw [e2]; exact go rfl (Below.refl _ _) hw rfl)
    · obtain ⟨o', e1, e2, e3, e4, e5⟩ := o11
      obtain rfl := Option.some.inj (ho.symm.trans e1)
      have dp := dep_of' e5 hdep
      have V5 : a.tmps.getD 67 undef = .bool false := hI.val 5 67 (by decide) rfl (dp 5 (by decide))
      have V10 : a.tmps.getD 72 undef = .pointer (some ⟨bx, 0, none⟩) := hI.val 10 72 (by decide) rfl (dp 10 (by decide))
      obtain ⟨og, g1, g2, -, -, -⟩ := o5
      exact wpOp_value_b (v := .slice (some XL) nn lcc) (w' := w) ho e4 g1 g2 (by rw [hI.size]; exact Nat.lt_of_lt_of_le (by decide) hs) V5 (by simp [execOp, e3, ev, evc, V5, V10, x11 w hw]) (by rw [e2]; exact go rfl (Below.refl _ _) hw rfl)
    · obtain ⟨o', e1, e2, e3, e4, e5⟩ := o12
      obtain rfl := Option.some.inj (ho.symm.trans e1)
      have dp := dep_of' e5 hdep
      have V5 : a.tmps.getD 67 undef = .bool false := hI.val 5 67 (by decide) rfl (dp 5 (by decide))
      have V11 : a.tmps.getD 73 undef = .slice (some XL) nn lcc := hI.val 11 73 (by decide) rfl (dp 11 (by decide))
      obtain ⟨og, g1, g2, -, -, -⟩ := o5
      exact wpOp_value_b (v := .int .i64 (nn : Nat)) (w' := w) ho e4 g1 g2 (by rw [hI.size]; exact Nat.lt_of_lt_of_le (by decide) hs) V5 (by simp [execOp, e3, ev, evc, V5, V11, builtin, resolve, invoke, goInt, Builtin.len_, run_underlying Try.underlying22]) (by rw [e2]; exact go rfl (Below.refl _ _) hw rfl)
    · obtain ⟨o', e1, e2, e3, e4, e5⟩ := o13
      obtain rfl := Option.some.inj (ho.symm.trans e1)
      have dp := dep_of' e5 hdep
      have V5 : a.tmps.getD 67 undef = .bool false := hI.val 5 67 (by decide) rfl (dp 5 (by decide))
      have V9 : a.tmps.getD 71 undef = .int .i64 (pp : Nat) := hI.val 9 71 (by decide) rfl (dp 9 (by decide))
      have V12 : a.tmps.getD 74 undef = .int .i64 (nn : Nat) := hI.val 12 74 (by decide) rfl (dp 12 (by decide))
      obtain ⟨og, g1, g2, -, -, -⟩ := o5
      exact wpOp_value_b (v := .bool false) (w' := w) ho e4 g1 g2 (by rw [hI.size]; exact Nat.lt_of_lt_of_le (by decide) hs) V5 (by simp [execOp, e3, ev, evc, V5, V9, V12, x13 w, eqGuard]) (by rw [e2]; exact go rfl (Below.refl _ _) hw rfl)
    · obtain ⟨o', e1, e2, e3, e4, e5⟩ := o14
      obtain rfl := Option.some.inj (ho.symm.trans e1)
      have dp := dep_of' e5 hdep
      have V5 : a.tmps.getD 67 undef = .bool false := hI.val 5 67 (by decide) rfl (dp 5 (by decide))
      have V13 : a.tmps.getD 75 undef = .bool false := hI.val 13 75 (by decide) rfl (dp 13 (by decide))
      exact wpOp_value (v := .bool false) (w' := w) ho e4 (by simp [execOp, e3, ev, evc, V5, V13, asBool]) (by rw [e2]; exact go rfl (Below.refl _ _) hw rfl)
    · obtain ⟨o', e1, e2, e3, e4, e5⟩ := o15
      obtain rfl := Option.some.inj (ho.symm.trans e1)
      have dp := dep_of' e5 hdep
      have V14 : a.tmps.getD 76 undef = .bool false := hI.val 14 76 (by decide) rfl (dp 14 (by decide))
      exact wpOp_value (v := .bool false) (w' := w) ho e4 (by simp [execOp, e3, ev, evc, V14]) (by rw [e2]; exact go rfl (Below.refl _ _) hw rfl)
    · obtain ⟨o', e1, e2, e3, e4, e5⟩ := o16
      obtain rfl := Option.some.inj (ho.symm.trans e1)
      have dp := dep_of' e5 hdep
      have V15 : a.tmps.getD 77 undef = .bool false := hI.val 15 77 (by decide) rfl (dp 15 (by decide))
      have U6 : a.tmps.getD 6 undef = .int .i64 (kk : Nat) := (kp 6 (by decide)).trans u6
      obtain ⟨og, g1, g2, -, -, -⟩ := o15
      exact wpOp_value_b (v := .int .i64 (kk : Nat)) (w' := w) ho e4 g1 g2 (by rw [hI.size]; exact Nat.lt_of_lt_of_le (by decide) hs) V15 (by simp [execOp, e3, ev, evc, V15, U6]) (by rw [e2]; exact go rfl (Below.refl _ _) hw rfl)
    · obtain ⟨o', e1, e2, e3, e4, e5⟩ := o17
      obtain rfl := Option.some.inj (ho.symm.trans e1)
      have dp := dep_of' e5 hdep
      have V15 : a.tmps.getD 77 undef = .bool false := hI.val 15 77 (by decide) rfl (dp 15 (by decide))
      have V16 : a.tmps.getD 78 undef = .int .i64 (kk : Nat) := hI.val 16 78 (by decide) rfl (dp 16 (by decide))
      obtain ⟨og, g1, g2, -, -, -⟩ := o15
      exact wpOp_value_b (v := .bool false) (w' := w) ho e4 g1 g2 (by rw [hI.size]; exact Nat.lt_of_lt_of_le (by decide) hs) V15 (by simp [execOp, e3, ev, evc, V15, V16, x17 w, eqGuard]) (by rw [e2]; exact go rfl (Below.refl _ _) hw rfl)
    · obtain ⟨o', e1, e2, e3, e4, e5⟩ := o18
      obtain rfl := Option.some.inj (ho.symm.trans e1)
      have dp := dep_of' e5 hdep
      have V15 : a.tmps.getD 77 undef = .bool false := hI.val 15 77 (by decide) rfl (dp 15 (by decide))
      have V17 : a.tmps.getD 79 undef = .bool false := hI.val 17 79 (by decide) rfl (dp 17 (by decide))
      obtain ⟨og, g1, g2, -, -, -⟩ := o15
      exact wpOp_value_b (v := .bool false) (w' := w) ho e4 g1 g2 (by rw [hI.size]; exact Nat.lt_of_lt_of_le (by decide) hs) V15 (by simp [execOp, e3, ev, evc, V15, V17]) (by rw [e2]; exact go rfl (Below.refl _ _) hw rfl)
    · obtain ⟨o', e1, e2, e3, e4, e5⟩ := o19
      obtain rfl := Option.some.inj (ho.symm.trans e1)
      have dp := dep_of' e5 hdep
      have V18 : a.tmps.getD 80 undef = .bool false := hI.val 18 80 (by decide) rfl (dp 18 (by decide))
      have U3 : a.tmps.getD 3 undef = .slice (some XT) qn ycc := (kp 3 (by decide)).trans u3
      obtain ⟨og, g1, g2, -, -, -⟩ := o18
      exact wpOp_unw ho e4 g1 g2 (by rw [hI.size]; exact Nat.lt_of_lt_of_le (by decide) hs) (by rw [V18]; rfl) (by rw [e2]; exact go rfl (Below.refl _ _) hw rfl)
    · obtain ⟨o', e1, e2, e3, e4, e5⟩ := o20
      obtain rfl := Option.some.inj (ho.symm.trans e1)
      have dp := dep_of' e5 hdep
      have V18 : a.tmps.getD 80 undef = .bool false := hI.val 18 80 (by decide) rfl (dp 18 (by decide))
      have U6 : a.tmps.getD 6 undef = .int .i64 (kk : Nat) := (kp 6 (by decide)).trans u6
      obtain ⟨og, g1, g2, -, -, -⟩ := o18
      exact wpOp_unw ho e4 g1 g2 (by rw [hI.size]; exact Nat.lt_of_lt_of_le (by decide) hs) (by rw [V18]; rfl) (by rw [e2]; exact go rfl (Below.refl _ _) hw rfl)
    · obtain ⟨o', e1, e2, e3, e4, e5⟩ := o21
      obtain rfl := Option.some.inj (ho.symm.trans e1)
      have dp := dep_of' e5 hdep
      have V18 : a.tmps.getD 80 undef = .bool false := hI.val 18 80 (by decide) rfl (dp 18 (by decide))
      have V19 : a.tmps.getD 81 undef = undef := hI.val 19 81 (by decide) rfl (dp 19 (by decide))
      have V20 : a.tmps.getD 82 undef = undef := hI.val 20 82 (by decide) rfl (dp 20 (by decide))
      obtain ⟨og, g1, g2, -, -, -⟩ := o18
      exact wpOp_unw ho e4 g1 g2 (by rw [hI.size]; exact Nat.lt_of_lt_of_le (by decide) hs) (by rw [V18]; rfl) (by rw [e2]; exact go rfl (Below.refl _ _) hw rfl)
    · obtain ⟨o', e1, e2, e3, e4, e5⟩ := o22
      obtain rfl := Option.some.inj (ho.symm.trans e1)
      have dp := dep_of' e5 hdep
      have V18 : a.tmps.getD 80 undef = .bool false := hI.val 18 80 (by decide) rfl (dp 18 (by decide))
      have V21 : a.tmps.getD 83 undef = undef := hI.val 21 83 (by decide) rfl (dp 21 (by decide))
      obtain ⟨og, g1, g2, -, -, -⟩ := o18
      exact wpOp_unw ho e4 g1 g2 (by rw [hI.size]; exact Nat.lt_of_lt_of_le (by decide) hs) (by rw [V18]; rfl) (by rw [e2]; exact go rfl (Below.refl _ _) hw rfl)
    · obtain ⟨o', e1, e2, e3, e4, e5⟩ := o23
      obtain rfl := Option.some.inj (ho.symm.trans e1)
      have dp := dep_of' e5 hdep
      have V18 : a.tmps.getD 80 undef = .bool false := hI.val 18 80 (by decide) rfl (dp 18 (by decide))
      have V22 : a.tmps.getD 84 undef = undef := hI.val 22 84 (by decide) rfl (dp 22 (by decide))
      obtain ⟨og, g1, g2, -, -, -⟩ := o18
      exact wpOp_unw ho e4 g1 g2 (by rw [hI.size]; exact Nat.lt_of_lt_of_le (by decide) hs) (by rw [V18]; rfl) (by rw [e2]; exact go rfl (Below.refl _ _) hw rfl)
    · obtain ⟨o', e1, e2, e3, e4, e5⟩ := o24
      obtain rfl := Option.some.inj (ho.symm.trans e1)
      have dp := dep_of' e5 hdep
      have V18 : a.tmps.getD 80 undef = .bool false := hI.val 18 80 (by decide) rfl (dp 18 (by decide))
      have U3 : a.tmps.getD 3 undef = .slice (some XT) qn ycc := (kp 3 (by decide)).trans u3
      obtain ⟨og, g1, g2, -, -, -⟩ := o18
      exact wpOp_unw ho e4 g1 g2 (by rw [hI.size]; exact Nat.lt_of_lt_of_le (by decide) hs) (by rw [V18]; rfl) (by rw [e2]; exact go rfl (Below.refl _ _) hw rfl)
    · obtain ⟨o', e1, e2, e3, e4, e5⟩ := o25
      obtain rfl := Option.some.inj (ho.symm.trans e1)
      have dp := dep_of' e5 hdep
      have V18 : a.tmps.getD 80 undef = .bool false := hI.val 18 80 (by decide) rfl (dp 18 (by decide))
      have U6 : a.tmps.getD 6 undef = .int .i64 (kk : Nat) := (kp 6 (by decide)).trans u6
      obtain ⟨og, g1, g2, -, -, -⟩ := o18
      exact wpOp_unw ho e4 g1 g2 (by rw [hI.size]; exact Nat.lt_of_lt_of_le (by decide) hs) (by rw [V18]; rfl) (by rw [e2]; exact go rfl (Below.refl _ _) hw rfl)
    · obtain ⟨o', e1, e2, e3, e4, e5⟩ := o26
      obtain rfl := Option.some.inj (ho.symm.trans e1)
      have dp := dep_of' e5 hdep
      have V18 : a.tmps.getD 80 undef = .bool false := hI.val 18 80 (by decide) rfl (dp 18 (by decide))
      have V25 : a.tmps.getD 87 undef = undef := hI.val 25 87 (by decide) rfl (dp 25 (by decide))
      obtain ⟨og, g1, g2, -, -, -⟩ := o18
      exact wpOp_unw ho e4 g1 g2 (by rw [hI.size]; exact Nat.lt_of_lt_of_le (by decide) hs) (by rw [V18]; rfl) (by rw [e2]; exact go rfl (Below.refl _ _) hw rfl)
    · obtain ⟨o', e1, e2, e3, e4, e5⟩ := o27
      obtain rfl := Option.some.inj (ho.symm.trans e1)
      have dp := dep_of' e5 hdep
      have V18 : a.tmps.getD 80 undef = .bool false := hI.val 18 80 (by decide) rfl (dp 18 (by decide))
      have V24 : a.tmps.getD 86 undef = undef := hI.val 24 86 (by decide) rfl (dp 24 (by decide))
      have V26 : a.tmps.getD 88 undef = undef := hI.val 26 88 (by decide) rfl (dp 26 (by decide))
      obtain ⟨og, g1, g2, -, -, -⟩ := o18
      exact wpOp_unw ho e4 g1 g2 (by rw [hI.size]; exact Nat.lt_of_lt_of_le (by decide) hs) (by rw [V18]; rfl) (by rw [e2]; exact go rfl (Below.refl _ _) hw rfl)
    · obtain ⟨o', e1, e2, e3, e4, e5⟩ := o28
      obtain rfl := Option.some.inj (ho.symm.trans e1)
      have dp := dep_of' e5 hdep
      have V18 : a.tmps.getD 80 undef = .bool false := hI.val 18 80 (by decide) rfl (dp 18 (by decide))
      have V27 : a.tmps.getD 89 undef = undef := hI.val 27 89 (by decide) rfl (dp 27 (by decide))
      obtain ⟨og, g1, g2, -, -, -⟩ := o18
      exact wpOp_unw ho e4 g1 g2 (by rw [hI.size]; exact Nat.lt_of_lt_of_le (by decide) hs) (by rw [V18]; rfl) (by rw [e2]; exact go rfl (Below.refl _ _) hw rfl)
    · obtain ⟨o', e1, e2, e3, e4, e5⟩ := o29
      obtain rfl := Option.some.inj (ho.symm.trans e1)
      have dp := dep_of' e5 hdep
      have V18 : a.tmps.getD 80 undef = .bool false := hI.val 18 80 (by decide) rfl (dp 18 (by decide))
      have V28 : a.tmps.getD 90 undef = undef := hI.val 28 90 (by decide) rfl (dp 28 (by decide))
      obtain ⟨og, g1, g2, -, -, -⟩ := o18
      exact wpOp_unw ho e4 g1 g2 (by rw [hI.size]; exact Nat.lt_of_lt_of_le (by decide) hs) (by rw [V18]; rfl) (by rw [e2]; exact go rfl (Below.refl _ _) hw rfl)
    · obtain ⟨o', e1, e2, e3, e4, e5⟩ := o30
      obtain rfl := Option.some.inj (ho.symm.trans e1)
      have dp := dep_of' e5 hdep
      have V18 : a.tmps.getD 80 undef = .bool false := hI.val 18 80 (by decide) rfl (dp 18 (by decide))
      have V23 : a.tmps.getD 85 undef = undef := hI.val 23 85 (by decide) rfl (dp 23 (by decide))
      have V29 : a.tmps.getD 91 undef = undef := hI.val 29 91 (by decide) rfl (dp 29 (by decide))
      obtain ⟨og, g1, g2, -, -, -⟩ := o18
      exact wpOp_unw ho e4 g1 g2 (by rw [hI.size]; exact Nat.lt_of_lt_of_le (by decide) hs) (by rw [V18]; rfl) (by rw [e2]; exact go rfl (Below.refl _ _) hw rfl)
    · obtain ⟨o', e1, e2, e3, e4, e5⟩ := o31
      obtain rfl := Option.some.inj (ho.symm.trans e1)
      have dp := dep_of' e5 hdep
      have V15 : a.tmps.getD 77 undef = .bool false := hI.val 15 77 (by decide) rfl (dp 15 (by decide))
      have V18 : a.tmps.getD 80 undef = .bool false := hI.val 18 80 (by decide) rfl (dp 18 (by decide))
      have V30 : a.tmps.getD 92 undef = undef := hI.val 30 92 (by decide) rfl (dp 30 (by decide))
      obtain ⟨og, g1, g2, -, -, -⟩ := o15
      exact wpOp_value_b (v := .bool false) (w' := w) ho e4 g1 g2 (by rw [hI.size]; exact Nat.lt_of_lt_of_le (by decide) hs) V15 (by simp [execOp, e3, ev, evc, V15, V18, V30, asBool]) (by rw [e2]; exact go rfl (Below.refl _ _) hw rfl)
    · obtain ⟨o', e1, e2, e3, e4, e5⟩ := o32
      obtain rfl := Option.some.inj (ho.symm.trans e1)
      have dp := dep_of' e5 hdep
      have V15 : a.tmps.getD 77 undef = .bool false := hI.val 15 77 (by decide) rfl (dp 15 (by decide))
      have V31 : a.tmps.getD 93 undef = .bool false := hI.val 31 93 (by decide) rfl (dp 31 (by decide))
      exact wpOp_value (v := .bool false) (w' := w) ho e4 (by simp [execOp, e3, ev, evc, V15, V31, asBool]) (by rw [e2]; exact go rfl (Below.refl _ _) hw rfl)
  · intro l a w hall hI
    have all : ∀ j, j < 33 → l j = true := fun j hj => hall j (by rw [hsz]; exact hj)
    exact fin a w hI.size hI.defers hI.kept hI.world.1 (fun i d hi hD => hI.val i d hi hD (all i hi))

def obD (i : Nat) : Option Nat := match i with | 0 => some 62 | 1 => some 63 | 2 => some 64 | 3 => some 65 | 4 => some 66 | 5 => some 67 | 6 => some 68 | 7 => some 69 | 8 => some 70 | 9 => some 71 | 10 => some 72 | 11 => some 73 | 12 => some 74 | 13 => some 75 | 14 => some 76 | 15 => some 77 | 16 => some 78 | 17 => some 79 | 18 => some 80 | 19 => some 81 | 20 => some 82 | 21 => some 83 | 22 => some 84 | 23 => some 85 | 24 => some 86 | 25 => some 87 | 26 => some 88 | 27 => some 89 | 28 => some 90 | 29 => some 91 | 30 => some 92 | 31 => some 93 | 32 => some 94 | _ => none
theorem obD_inj : ∀ i, i < 33 → ∀ j, j < 33 → obD i = obD j → obD i ≠ none → i = j := by decide
theorem obD_lt : ∀ i, i < 33 → ∀ d, obD i = some d → d < 192 := by
  intro i hi d h
  have : ∀ i, i < 33 → (obD i).all (fun d => decide (d < 192)) = true := by decide
  have := this i hi
  rw [h] at this
  simpa using this
def obF (bx nn qn kk pp lcc ycc ydd : Nat) (XL XT XP : Addr) (YY YZ : Addr) (SS SZ : Int) (KZ : Nat) (i : Nat) (q : Value) (w : World) : Prop := match i with
  | 0 => q = .slice (some XP) qn ydd
  | 1 => q = .int .i64 (kk : Nat)
  | 2 => q = .pointer (some (XP.add kk))
  | 3 => q = .int .i64 (pp : Nat)
  | 4 => q = .bool false
  | 5 => q = .bool false
  | 6 => q = .slice (some XP) qn ydd
  | 7 => q = .int .i64 (kk : Nat)
  | 8 => q = .pointer (some (XP.add kk))
  | 9 => q = .int .i64 (pp : Nat)
  | 10 => q = .pointer (some ⟨bx, 0, none⟩)
  | 11 => q = .slice (some XL) nn lcc
  | 12 => q = .int .i64 (nn : Nat)
  | 13 => q = .bool false
  | 14 => q = .bool false
  | 15 => q = .bool false
  | 16 => q = .int .i64 (kk : Nat)
  | 17 => q = .bool true
  | 18 => q = .bool true
  | 19 => q = .slice (some XT) qn ycc
  | 20 => q = .int .i64 (kk : Nat)
  | 21 => q = .pointer (some YY)
  | 22 => q = .pointer (some ⟨YY.block, YY.off + 1, none⟩)
  | 23 => q = .int .i64 SS
  | 24 => q = .slice (some XT) qn ycc
  | 25 => q = .int .i64 (kk : Nat)
  | 26 => q = .int .i64 (KZ : Nat)
  | 27 => q = .pointer (some YZ)
  | 28 => q = .pointer (some ⟨YZ.block, YZ.off + 1, none⟩)
  | 29 => q = .int .i64 SZ
  | 30 => q = .bool false
  | 31 => q = .bool false
  | 32 => q = .bool false
  | _ => True
theorem obF_below {bx nn qn kk pp lcc ycc ydd : Nat} {XL XT XP : Addr} {YY YZ : Addr} {SS SZ : Int} {KZ : Nat} {i : Nat} {q : Value} {w w' : World} (h : obF bx nn qn kk pp lcc ycc ydd XL XT XP YY YZ SS SZ KZ i q w) (hb : Below w.heap.size w w') : obF bx nn qn kk pp lcc ycc ydd XL XT XP YY YZ SS SZ KZ i q w' := by
  unfold obF at h ⊢
  split
  · exact h
  · exact h
  · exact h
  · exact h
  · exact h
  · exact h
  · exact h
  · exact h
  · exact h
  · exact h
  · exact h
  · exact h
  · exact h
  · exact h
  · exact h
  · exact h
  · exact h
  · exact h
  · exact h
  · exact h
  · exact h
  · exact h
  · exact h
  · exact h
  · exact h
  · exact h
  · exact h
  · exact h
  · exact h
  · exact h
  · exact h
  · exact h
  · exact h
  · trivial

set_option maxHeartbeats 8000000 in
theorem ob_region {id : Nat} {ops : Array Oper} {Q : Exit → Act → World → Prop} {a0 : Act} {w0 : World} (bx nn qn kk pp lcc ycc ydd : Nat) (XL XT XP : Addr) (YY YZ : Addr) (SS SZ : Int) (KZ : Nat) (S : World → Prop) (hlow : lowB ops = true) (hsz : ops.size = 33)
    (o0 : OpIn ops 0 (some 62) (.move (.tmp 4)) none []) (o1 : OpIn ops 1 (some 63) (.move (.tmp 6)) none []) (o2 : OpIn ops 2 (some 64) (.indexAddr 29 (.tmp 62) (.tmp 63)) none [0, 1]) (o3 : OpIn ops 3 (some 65) (.load 3 (.tmp 64)) none [2]) (o4 : OpIn ops 4 (some 66) (.binOp .lss 3 (.tmp 65) (.const (.int .i64 0)) 3) none [3]) (o5 : OpIn ops 5 (some 67) (.move (.tmp 66)) none [4]) (o6 : OpIn ops 6 (some 68) (.move (.tmp 4)) (some (5, false)) [5]) (o7 : OpIn ops 7 (some 69) (.move (.tmp 6)) (some (5, false)) [5]) (o8 : OpIn ops 8 (some 70) (.indexAddr 29 (.tmp 68) (.tmp 69)) (some (5, false)) [5, 6, 7]) (o9 : OpIn ops 9 (some 71) (.load 3 (.tmp 70)) (some (5, false)) [5, 8]) (o10 : OpIn ops 10 (some 72) (.fieldAddr 25 (.tmp 1) 0) (some (5, false)) [5]) (o11 : OpIn ops 11 (some 73) (.load 22 (.tmp 72)) (some (5, false)) [5, 10]) (o12 : OpIn ops 12 (some 74) (.call { callee := .builtin .len, args := #[.tmp 73], argTypes := #[22] }) (some (5, false)) [5, 11]) (o13 : OpIn ops 13 (some 75) (.binOp .geq 3 (.tmp 71) (.tmp 74) 3) (some (5, false)) [5, 9, 12]) (o14 : OpIn ops 14 (some 76) (.pick (.tmp 67) (.const (.bool true)) (.tmp 75)) none [5, 13]) (o15 : OpIn ops 15 (some 77) (.move (.tmp 76)) none [14]) (o16 : OpIn ops 16 (some 78) (.move (.tmp 6)) (some (15, false)) [15]) (o17 : OpIn ops 17 (some 79) (.binOp .gtr 3 (.tmp 78) (.const (.int .i64 0)) 3) (some (15, false)) [15, 16]) (o18 : OpIn ops 18 (some 80) (.move (.tmp 79)) (some (15, false)) [15, 17]) (o19 : OpIn ops 19 (some 81) (.move (.tmp 3)) (some (18, true)) [18]) (o20 : OpIn ops 20 (some 82) (.move (.tmp 6)) (some (18, true)) [18]) (o21 : OpIn ops 21 (some 83) (.indexAddr 27 (.tmp 81) (.tmp 82)) (some (18, true)) [18, 19, 20]) (o22 : OpIn ops 22 (some 84) (.fieldAddr 40 (.tmp 83) 1) (some (18, true)) [18, 21]) (o23 : OpIn ops 23 (some 85) (.load 2 (.tmp 84)) (some (18, true)) [18, 22]) (o24 : OpIn ops 24 (some 86) (.move (.tmp 3)) (some (18, true)) [18]) (o25 : OpIn ops 25 (some 87) (.move (.tmp 6)) (some (18, true)) [18]) (o26 : OpIn ops 26 (some 88) (.binOp .sub 3 (.tmp 87) (.const (.int .i64 1)) 3) (some (18, true)) [18, 25]) (o27 : OpIn ops 27 (some 89) (.indexAddr 27 (.tmp 86) (.tmp 88)) (some (18, true)) [18, 24, 26]) (o28 : OpIn ops 28 (some 90) (.fieldAddr 40 (.tmp 89) 1) (some (18, true)) [18, 27]) (o29 : OpIn ops 29 (some 91) (.load 2 (.tmp 90)) (some (18, true)) [18, 28]) (o30 : OpIn ops 30 (some 92) (.binOp .gtr 2 (.tmp 85) (.tmp 91) 2) (some (18, true)) [18, 23, 29]) (o31 : OpIn ops 31 (some 93) (.pick (.tmp 80) (.tmp 92) (.const (.bool false))) (some (15, false)) [15, 18, 30]) (o32 : OpIn ops 32 (some 94) (.pick (.tmp 77) (.const (.bool true)) (.tmp 93)) none [15, 31])
    (hS : S w0.drew)
    (x2 : ∀ w, (Instr.indexAt 29 (.slice (some XP) qn ydd) (.int .i64 (kk : Nat))).run Try.prog w = .ok (.pointer (some (XP.add kk))) w)
    (x3 : ∀ w, S w → (Instr.loadAt 3 (.pointer (some (XP.add kk)))).run Try.prog w = .ok (.int .i64 (pp : Nat)) w)
    (x4 : ∀ w, (binOp .lss 3 (.int .i64 (pp : Nat)) (.int .i64 0)).run Try.prog w = .ok (.bool false) w)
    (x8 : ∀ w, (Instr.indexAt 29 (.slice (some XP) qn ydd) (.int .i64 (kk : Nat))).run Try.prog w = .ok (.pointer (some (XP.add kk))) w)
    (x9 : ∀ w, S w → (Instr.loadAt 3 (.pointer (some (XP.add kk)))).run Try.prog w = .ok (.int .i64 (pp : Nat)) w)
    (x10 : ∀ w, (Instr.fieldAt 25 (.pointer (some ⟨bx, 0, none⟩)) 0).run Try.prog w = .ok (.pointer (some ⟨bx, 0, none⟩)) w)
    (x11 : ∀ w, S w → (Instr.loadAt 22 (.pointer (some ⟨bx, 0, none⟩))).run Try.prog w = .ok (.slice (some XL) nn lcc) w)
    (x13 : ∀ w, (binOp .geq 3 (.int .i64 (pp : Nat)) (.int .i64 (nn : Nat))).run Try.prog w = .ok (.bool false) w)
    (x17 : ∀ w, (binOp .gtr 3 (.int .i64 (kk : Nat)) (.int .i64 0)).run Try.prog w = .ok (.bool true) w)
    (x21 : ∀ w, (Instr.indexAt 27 (.slice (some XT) qn ycc) (.int .i64 (kk : Nat))).run Try.prog w = .ok (.pointer (some YY)) w)
    (x22 : ∀ w, (Instr.fieldAt 40 (.pointer (some YY)) 1).run Try.prog w = .ok (.pointer (some ⟨YY.block, YY.off + 1, none⟩)) w)
    (x23 : ∀ w, S w → (Instr.loadAt 2 (.pointer (some ⟨YY.block, YY.off + 1, none⟩))).run Try.prog w = .ok (.int .i64 SS) w)
    (x26 : ∀ w, (binOp .sub 3 (.int .i64 (kk : Nat)) (.int .i64 1)).run Try.prog w = .ok (.int .i64 (KZ : Nat)) w)
    (x27 : ∀ w, (Instr.indexAt 27 (.slice (some XT) qn ycc) (.int .i64 (KZ : Nat))).run Try.prog w = .ok (.pointer (some YZ)) w)
    (x28 : ∀ w, (Instr.fieldAt 40 (.pointer (some YZ)) 1).run Try.prog w = .ok (.pointer (some ⟨YZ.block, YZ.off + 1, none⟩)) w)
    (x29 : ∀ w, S w → (Instr.loadAt 2 (.pointer (some ⟨YZ.block, YZ.off + 1, none⟩))).run Try.prog w = .ok (.int .i64 SZ) w)
    (x30 : ∀ w, (binOp .gtr 2 (.int .i64 SS) (.int .i64 SZ)).run Try.prog w = .ok (.bool false) w)
    (u1 : a0.tmps.getD 1 undef = .pointer (some ⟨bx, 0, none⟩))
    (u3 : a0.tmps.getD 3 undef = .slice (some XT) qn ycc)
    (u4 : a0.tmps.getD 4 undef = .slice (some XP) qn ydd)
    (u6 : a0.tmps.getD 6 undef = .int .i64 (kk : Nat))
    (hs : 192 ≤ a0.tmps.size)
    (fin : ∀ a w, a.tmps.size = a0.tmps.size → a.defers = a0.defers → (∀ s, (∀ i, i < 33 → obD i ≠ some s) → a.tmps.getD s undef = a0.tmps.getD s undef) → S w → (∀ i d, i < 33 → obD i = some d → obF bx nn qn kk pp lcc ycc ydd XL XT XP YY YZ SS SZ KZ i (a.tmps.getD d undef) w) → Q .normal a w) : (Code.region id ops true).wp Try.prog Q a0 w0 := by
  refine wp_region_inv2 (by kernel_rfl) hlow (Inv 33 obD a0 (fun l a w => S w ∧ Kept2 33 obD a0 l a) (fun _ => obF bx nn qn kk pp lcc ycc ydd XL XT XP YY YZ SS SZ KZ)) (Inv.start ⟨hS, kept2_start _ _ _⟩) ?_ ?_
  · intro l i o a w ho hl hcl hdep hI
    have hi : i < 33 := by rw [← hsz]; exact (Array.getElem?_eq_some_iff.1 ho).1
    have ev : ∀ (s : Nat), a.eval (.tmp s) = a.tmps.getD s undef := fun _ => rfl
    have evf : ∀ f, a.eval (.func f) = .func (.func f) #[] #[] := fun _ => rfl
    have evc : ∀ c : Value, a.eval (.const c) = c := fun _ => rfl
    have inj : ∀ d, obD i = some d → ∀ j d', j < 33 → obD j = some d' → j ≠ i → d' ≠ d := fun d hd j d' hj hd' hne e => hne (obD_inj j hj i hi (by rw [hd', hd, e]) (by rw [hd']; simp))
    have kp : ∀ s, (∀ i, i < 33 → obD i ≠ some s) → a.tmps.getD s undef = a0.tmps.getD s undef := hI.kept
    have hw : S w := hI.world.1
    have k2 := hI.world.2
    have ex0 := hI.world.2
    have go : ∀ {d : Nat} {v : Value} {w' : World}, obD i = some d → Below w.heap.size w w' → S w' → obF bx nn qn kk pp lcc ycc ydd XL XT XP YY YZ SS SZ KZ i v w' → Inv 33 obD a0 (fun l a w => S w ∧ Kept2 33 obD a0 l a) (fun _ => obF bx nn qn kk pp lcc ycc ydd XL XT XP YY YZ SS SZ KZ) (fun j => l j || j == i) (a.put (some d) v) w' := by
      intro d v w' hD hb hS' hF
      exact hI.put hi hD (Nat.lt_of_lt_of_le (obD_lt i hi d hD) hs) (inj d hD) ⟨hS', k2.put hD (by rw [hI.size]; exact Nat.lt_of_lt_of_le (obD_lt i hi d hD) hs) hi⟩ hF (fun j u _ _ _ hf => obF_below hf hb)
    rcases (show i = 0 ∨ i = 1 ∨ i = 2 ∨ i = 3 ∨ i = 4 ∨ i = 5 ∨ i = 6 ∨ i = 7 ∨ i = 8 ∨ i = 9 ∨ i = 10 ∨ i = 11 ∨ i = 12 ∨ i = 13 ∨ i = 14 ∨ i = 15 ∨ i = 16 ∨ i = 17 ∨ i = 18 ∨ i = 19 ∨ i = 20 ∨ i = 21 ∨ i = 22 ∨ i = 23 ∨ i = 24 ∨ i = 25 ∨ i = 26 ∨ i = 27 ∨ i = 28 ∨ i = 29 ∨ i = 30 ∨ i = 31 ∨ i = 32 by omega) with rfl | rfl | rfl | rfl | rfl | rfl | rfl | rfl | rfl | rfl | rfl | rfl | rfl | rfl | rfl | rfl | rfl | rfl | rfl | rfl | rfl | rfl | rfl | rfl | rfl | rfl | rfl | rfl | rfl | rfl | rfl | rfl | rfl
    · obtain ⟨o', e1, e2, e3, e4, e5⟩ := o0
      obtain rfl := Option.some.inj (ho.symm.trans e1)
      have dp := dep_of' e5 hdep
      have U4 : a.tmps.getD 4 undef = .slice (some XP) qn ydd := (kp 4 (by decide)).trans u4
      exact wpOp_value (v := .slice (some XP) qn ydd) (w' := w) ho e4 (by simp [execOp, e3, ev, evc, U4]) (by rw [e2]; exact go rfl (Below.refl _ _) hw rfl)
    · obtain ⟨o', e1, e2, e3, e4, e5⟩ := o1
      obtain rfl := Option.some.inj (ho.symm.trans e1)
      have dp := dep_of' e5 hdep
      have U6 : a.tmps.getD 6 undef = .int .i64 (kk : Nat) := (kp 6 (by decide)).trans u6
      exact wpOp_value (v := .int .i64 (kk : Nat)) (w' := w) ho e4 (by simp [execOp, e3, ev, evc, U6]) (by rw [e2]; exact go rfl (Below.refl _ _) hw rfl)
    · obtain ⟨o', e1, e2, e3, e4, e5⟩ := o2
      obtain rfl := Option.some.inj (ho.symm.trans e1)
      have dp := dep_of' e5 hdep
      have V0 : a.tmps.getD 62 undef = .slice (some XP) qn ydd := hI.val 0 62 (by decide) rfl (dp 0 (by decide))
      have V1 : a.tmps.getD 63 undef = .int .i64 (kk : Nat) := hI.val 1 63 (by decide) rfl (dp 1 (by decide))
      exact wpOp_value (v := .pointer (some (XP.add kk))) (w' := w) ho e4 (by simp [execOp, e3, ev, evc, V0, V1, x2 w]) (by rw [e2]; exact go rfl (Below.refl _ _) hw rfl)
    · obtain ⟨o', e1, e2, e3, e4, e5⟩ := o3
      obtain rfl := Option.some.inj (ho.symm.trans e1)
      have dp := dep_of' e5 hdep
      have V2 : a.tmps.getD 64 undef = .pointer (some (XP.add kk)) := hI.val 2 64 (by decide) rfl (dp 2 (by decide))
      exact wpOp_value (v := .int .i64 (pp : Nat)) (w' := w) ho e4 (by simp [execOp, e3, ev, evc, V2, x3 w hw]) (by rw [e2]; exact go rfl (Below.refl _ _) hw rfl)
    · obtain ⟨o', e1, e2, e3, e4, e5⟩ := o4
      obtain rfl := Option.some.inj (ho.symm.trans e1)
      have dp := dep_of' e5 hdep
      have V3 : a.tmps.getD 65 undef = .int .i64 (pp : Nat) := hI.val 3 65 (by decide) rfl (dp 3 (by decide))
      exact wpOp_value (v := .bool false) (w' := w) ho e4 (by simp [execOp, e3, ev, evc, V3, x4 w, eqGuard]) (by rw [e2]; exact go rfl (Below.refl _ _) hw rfl)
    · obtain ⟨o', e1, e2, e3, e4, e5⟩ := o5
      obtain rfl := Option.some.inj (ho.symm.trans e1)
      have dp := dep_of' e5 hdep
      have V4 : a.tmps.getD 66 undef = .bool false := hI.val 4 66 (by decide) rfl (dp 4 (by decide))
      exact wpOp_value (v := .bool false) (w' := w) ho e4 (by simp [execOp, e3, ev, evc, V4]) (by rw [e2]; exact go rfl (Below.refl _ _) hw rfl)
    · obtain ⟨o', e1, e2, e3, e4, e5⟩ := o6
      obtain rfl := Option.some.inj (ho.symm.trans e1)
      have dp := dep_of' e5 hdep
      have V5 : a.tmps.getD 67 undef = .bool false := hI.val 5 67 (by decide) rfl (dp 5 (by decide))
      have U4 : a.tmps.getD 4 undef = .slice (some XP) qn ydd := (kp 4 (by decide)).trans u4
      obtain ⟨og, g1, g2, -, -, -⟩ := o5
      exact wpOp_value_b (v := .slice (some XP) qn ydd) (w' := w) ho e4 g1 g2 (by rw [hI.size]; exact Nat.lt_of_lt_of_le (by decide) hs) V5 (by simp [execOp, e3, ev, evc, V5, U4]) (by rw [e2]; exact go rfl (Below.refl _ _) hw rfl)
    · obtain ⟨o', e1, e2, e3, e4, e5⟩ := o7
      obtain rfl := Option.some.inj (ho.symm.trans e1)
      have dp := dep_of' e5 hdep
      have V5 : a.tmps.getD 67 undef = .bool false := hI.val 5 67 (by decide) rfl (dp 5 (by decide))
      have U6 : a.tmps.getD 6 undef = .int .i64 (kk : Nat) := (kp 6 (by decide)).trans u6
      obtain ⟨og, g1, g2, -, -, -⟩ := o5
      exact wpOp_value_b (v := .int .i64 (kk : Nat)) (w' := w) ho e4 g1 g2 (by rw [hI.size]; exact Nat.lt_of_lt_of_le (by decide) hs) V5 (by simp [execOp, e3, ev, evc, V5, U6]) (by rw [e2]; exact go rfl (Below.refl _ _) hw rfl)
    · obtain ⟨o', e1, e2, e3, e4, e5⟩ := o8
      obtain rfl := Option.some.inj (ho.symm.trans e1)
      have dp := dep_of' e5 hdep
      have V5 : a.tmps.getD 67 undef = .bool false := hI.val 5 67 (by decide) rfl (dp 5 (by decide))
      have V6 : a.tmps.getD 68 undef = .slice (some XP) qn ydd := hI.val 6 68 (by decide) rfl (dp 6 (by decide))
      have V7 : a.tmps.getD 69 undef = .int .i64 (kk : Nat) := hI.val 7 69 (by decide) rfl (dp 7 (by decide))
      obtain ⟨og, g1, g2, -, -, -⟩ := o5
      exact wpOp_value_b (v := .pointer (some (XP.add kk))) (w' := w) ho e4 g1 g2 (by rw [hI.size]; exact Nat.lt_of_lt_of_le (by decide) hs) V5 (by simp [execOp, e3, ev, evc, V5, V6, V7, x8 w]) (by rw [e2]; exact go rfl (Below.refl _ _) hw rfl)
    · obtain ⟨o', e1, e2, e3, e4, e5⟩ := o9
      obtain rfl := Option.some.inj (ho.symm.trans e1)
      have dp := dep_of' e5 hdep
      have V5 : a.tmps.getD 67 undef = .bool false := hI.val 5 67 (by decide) rfl (dp 5 (by decide))
      have V8 : a.tmps.getD 70 undef = .pointer (some (XP.add kk)) := hI.val 8 70 (by decide) rfl (dp 8 (by decide))
      obtain ⟨og, g1, g2, -, -, -⟩ := o5
      exact wpOp_value_b (v := .int .i64 (pp : Nat)) (w' := w) ho e4 g1 g2 (by rw [hI.size]; exact Nat.lt_of_lt_of_le (by decide) hs) V5 (by simp [execOp, e3, ev, evc, V5, V8, x9 w hw]) (by rw [e2]; exact go rfl (Below.refl _ _) hw rfl)
    · obtain ⟨o', e1, e2, e3, e4, e5⟩ := o10
      obtain rfl := Option.some.inj (ho.symm.trans e1)
      have dp := dep_of' e5 hdep
      have V5 : a.tmps.getD 67 undef = .bool false := hI.val 5 67 (by decide) rfl (dp 5 (by decide))
      have U1 : a.tmps.getD 1 undef = .pointer (some ⟨bx, 0, none⟩) := (kp 1 (by decide)).trans u1
      obtain ⟨og, g1, g2, -, -, -⟩ := o5
      exact wpOp_value_b (v := .pointer (some ⟨bx, 0, none⟩)) (w' := w) ho e4 g1 g2 (by rw [hI.size]; exact Nat.lt_of_lt_of_le (by decide) hs) V5 (by simp [execOp, e3, ev, evc, V5, U1, x10 w]) (by rw [e2]; exact go rfl (Below.refl _ _) hw rfl)
    · obtain ⟨o', e1, e2, e3, e4, e5⟩ := o11
      obtain rfl := Option.some.inj (ho.symm.trans e1)
      have dp := dep_of' e5 hdep
      have V5 : a.tmps.getD 67 undef = .bool false := hI.val 5 67 (by decide) rfl (dp 5 (by decide))
      have V10 : a.tmps.getD 72 undef = .pointer (some ⟨bx, 0, none⟩) := hI.val 10 72 (by decide) rfl (dp 10 (by decide))
      obtain ⟨og, g1, g2, -, -, -⟩ := o5
      exact wpOp_value_b (v := .slice (some XL) nn lcc) (w' := w) ho e4 g1 g2 (by rw [hI.size]; exact Nat.lt_of_lt_of_le (by decide) hs) V5 (by simp [execOp, e3, ev, evc, V5, V10, x11 w hw]) (by rw [e2]; exact go rfl (Below.refl _ _) hw rfl)
    · obtain ⟨o', e1, e2, e3, e4, e5⟩ := o12
      obtain rfl := Option.some.inj (ho.symm.trans e1)
      have dp := dep_of' e5 hdep
      have V5 : a.tmps.getD 67 undef = .bool false := hI.val 5 67 (by decide) rfl (dp 5 (by decide))
      have V11 : a.tmps.getD 73 undef = .slice (some XL) nn lcc := hI.val 11 73 (by decide) rfl (dp 11 (by decide))
      obtain ⟨og, g1, g2, -, -, -⟩ := o5
      exact wpOp_value_b (v := .int .i64 (nn : Nat)) (w' := w) ho e4 g1 g2 (by rw [hI.size]; exact Nat.lt_of_lt_of_le (by decide) hs) V5 (by simp [execOp, e3, ev, evc, V5, V11, builtin, resolve, invoke, goInt, Builtin.len_, run_underlying Try.underlying22]) (by rw [e2]; exact go rfl (Below.refl _ _) hw rfl)
    · obtain ⟨o', e1, e2, e3, e4, e5⟩ := o13
      obtain rfl := Option.some.inj (ho.symm.trans e1)
      have dp := dep_of' e5 hdep
      have V5 : a.tmps.getD 67 undef = .bool false := hI.val 5 67 (by decide) rfl (dp 5 (by decide))
      have V9 : a.tmps.getD 71 undef = .int .i64 (pp : Nat) := hI.val 9 71 (by decide) rfl (dp 9 (by decide))
      have V12 : a.tmps.getD 74 undef = .int .i64 (nn : Nat) := hI.val 12 74 (by decide) rfl (dp 12 (by decide))
      obtain ⟨og, g1, g2, -, -, -⟩ := o5
      exact wpOp_value_b (v := .bool false) (w' := w) ho e4 g1 g2 (by rw [hI.size]; exact Nat.lt_of_lt_of_le (by decide) hs) V5 (by simp [execOp, e3, ev, evc, V5, V9, V12, x13 w, eqGuard]) (by rw [e2]; exact go rfl (Below.refl _ _) hw rfl)
    · obtain ⟨o', e1, e2, e3, e4, e5⟩ := o14
      obtain rfl := Option.some.inj (ho.symm.trans e1)
      have dp := dep_of' e5 hdep
      have V5 : a.tmps.getD 67 undef = .bool false := hI.val 5 67 (by decide) rfl (dp 5 (by decide))
      have V13 : a.tmps.getD 75 undef = .bool false := hI.val 13 75 (by decide) rfl (dp 13 (by decide))
      exact wpOp_value (v := .bool false) (w' := w) ho e4 (by simp [execOp, e3, ev, evc, V5, V13, asBool]) (by rw [e2]; exact go rfl (Below.refl _ _) hw rfl)
    · obtain ⟨o', e1, e2, e3, e4, e5⟩ := o15
      obtain rfl := Option.some.inj (ho.symm.trans e1)
      have dp := dep_of' e5 hdep
      have V14 : a.tmps.getD 76 undef = .bool false := hI.val 14 76 (by decide) rfl (dp 14 (by decide))
      exact wpOp_value (v := .bool false) (w' := w) ho e4 (by simp [execOp, e3, ev, evc, V14]) (by rw [e2]; exact go rfl (Below.refl _ _) hw rfl)
    · obtain ⟨o', e1, e2, e3, e4, e5⟩ := o16
      obtain rfl := Option.some.inj (ho.symm.trans e1)
      have dp := dep_of' e5 hdep
      have V15 : a.tmps.getD 77 undef = .bool false := hI.val 15 77 (by decide) rfl (dp 15 (by decide))
      have U6 : a.tmps.getD 6 undef = .int .i64 (kk : Nat) := (kp 6 (by decide)).trans u6
      obtain ⟨og, g1, g2, -, -, -⟩ := o15
      exact wpOp_value_b (v := .int .i64 (kk : Nat)) (w' := w) ho e4 g1 g2 (by rw [hI.size]; exact Nat.lt_of_lt_of_le (by decide) hs) V15 (by simp [execOp, e3, ev, evc, V15, U6]) (by rw [e2]; exact go rfl (Below.refl _ _) hw rfl)
    · obtain ⟨o', e1, e2, e3, e4, e5⟩ := o17
      obtain rfl := Option.some.inj (ho.symm.trans e1)
      have dp := dep_of' e5 hdep
      have V15 : a.tmps.getD 77 undef = .bool false := hI.val 15 77 (by decide) rfl (dp 15 (by decide))
      have V16 : a.tmps.getD 78 undef = .int .i64 (kk : Nat) := hI.val 16 78 (by decide) rfl (dp 16 (by decide))
      obtain ⟨og, g1, g2, -, -, -⟩ := o15
      exact wpOp_value_b (v := .bool true) (w' := w) ho e4 g1 g2 (by rw [hI.size]; exact Nat.lt_of_lt_of_le (by decide) hs) V15 (by simp [execOp, e3, ev, evc, V15, V16, x17 w, eqGuard]) (by rw [e2]; exact go rfl (Below.refl _ _) hw rfl)
    · obtain ⟨o', e1, e2, e3, e4, e5⟩ := o18
      obtain rfl := Option.some.inj (ho.symm.trans e1)
      have dp := dep_of' e5 hdep
      have V15 : a.tmps.getD 77 undef = .bool false := hI.val 15 77 (by decide) rfl (dp 15 (by decide))
      have V17 : a.tmps.getD 79 undef = .bool true := hI.val 17 79 (by decide) rfl (dp 17 (by decide))
      obtain ⟨og, g1, g2, -, -, -⟩ := o15
      exact wpOp_value_b (v := .bool true) (w' := w) ho e4 g1 g2 (by rw [hI.size]; exact Nat.lt_of_lt_of_le (by decide) hs) V15 (by simp [execOp, e3, ev, evc, V15, V17]) (by rw [e2]; exact go rfl (Below.refl _ _) hw rfl)
    · obtain ⟨o', e1, e2, e3, e4, e5⟩ := o19
      obtain rfl := Option.some.inj (ho.symm.trans e1)
      have dp := dep_of' e5 hdep
      have V18 : a.tmps.getD 80 undef = .bool true := hI.val 18 80 (by decide) rfl (dp 18 (by decide))
      have U3 : a.tmps.getD 3 undef = .slice (some XT) qn ycc := (kp 3 (by decide)).trans u3
      obtain ⟨og, g1, g2, -, -, -⟩ := o18
      exact wpOp_value_b (v := .slice (some XT) qn ycc) (w' := w) ho e4 g1 g2 (by rw [hI.size]; exact Nat.lt_of_lt_of_le (by decide) hs) V18 (by simp [execOp, e3, ev, evc, V18, U3]) (by rw [e2]; exact go rfl (Below.refl _ _) hw rfl)
    · obtain ⟨o', e1, e2, e3, e4, e5⟩ := o20
      obtain rfl := Option.some.inj (ho.symm.trans e1)
      have dp := dep_of' e5 hdep
      have V18 : a.tmps.getD 80 undef = .bool true := hI.val 18 80 (by decide) rfl (dp 18 (by decide))
      have U6 : a.tmps.getD 6 undef = .int .i64 (kk : Nat) := (kp 6 (by decide)).trans u6
      obtain ⟨og, g1, g2, -, -, -⟩ := o18
      exact wpOp_value_b (v := .int .i64 (kk : Nat)) (w' := w) ho e4 g1 g2 (by rw [hI.size]; exact Nat.lt_of_lt_of_le (by decide) hs) V18 (by simp [execOp, e3, ev, evc, V18, U6]) (by rw [e2]; exact go rfl (Below.refl _ _) hw rfl)
    · obtain ⟨o', e1, e2, e3, e4, e5⟩ := o21
      obtain rfl := Option.some.inj (ho.symm.trans e1)
      have dp := dep_of' e5 hdep
      have V18 : a.tmps.getD 80 undef = .bool true := hI.val 18 80 (by decide) rfl (dp 18 (by decide))
      have V19 : a.tmps.getD 81 undef = .slice (some XT) qn ycc := hI.val 19 81 (by decide) rfl (dp 19 (by decide))
      have V20 : a.tmps.getD 82 undef = .int .i64 (kk : Nat) := hI.val 20 82 (by decide) rfl (dp 20 (by decide))
      obtain ⟨og, g1, g2, -, -, -⟩ := o18
      exact wpOp_value_b (v := .pointer (some YY)) (w' := w) ho e4 g1 g2 (by rw [hI.size]; exact Nat.lt_of_lt_of_le (by decide) hs) V18 (by simp [execOp, e3, ev, evc, V18, V19, V20, x21 w]) (by rw [e2]; exact go rfl (Below.refl _ _) hw rfl)
    · obtain ⟨o', e1, e2, e3, e4, e5⟩ := o22
      obtain rfl := Option.some.inj (ho.symm.trans e1)
      have dp := dep_of' e5 hdep
      have V18 : a.tmps.getD 80 undef = .bool true := hI.val 18 80 (by decide) rfl (dp 18 (by decide))
      have V21 : a.tmps.getD 83 undef = .pointer (some YY) := hI.val 21 83 (by decide) rfl (dp 21 (by decide))
      obtain ⟨og, g1, g2, -, -, -⟩ := o18
      exact wpOp_value_b (v := .pointer (some ⟨YY.block, YY.off + 1, none⟩)) (w' := w) ho e4 g1 g2 (by rw [hI.size]; exact Nat.lt_of_lt_of_le (by decide) hs) V18 (by simp [execOp, e3, ev, evc, V18, V21, x22 w]) (by rw [e2]; exact go rfl (Below.refl _ _) hw rfl)
    · obtain ⟨o', e1, e2, e3, e4, e5⟩ := o23
      obtain rfl := Option.some.inj (ho.symm.trans e1)
      have dp := dep_of' e5 hdep
      have V18 : a.tmps.getD 80 undef = .bool true := hI.val 18 80 (by decide) rfl (dp 18 (by decide))
      have V22 : a.tmps.getD 84 undef = .pointer (some ⟨YY.block, YY.off + 1, none⟩) := hI.val 22 84 (by decide) rfl (dp 22 (by decide))
      obtain ⟨og, g1, g2, -, -, -⟩ := o18
      exact wpOp_value_b (v := .int .i64 SS) (w' := w) ho e4 g1 g2 (by rw [hI.size]; exact Nat.lt_of_lt_of_le (by decide) hs) V18 (by simp [execOp, e3, ev, evc, V18, V22, x23 w hw]) (by rw [e2]; exact go rfl (Below.refl _ _) hw rfl)
    · obtain ⟨o', e1, e2, e3, e4, e5⟩ := o24
      obtain rfl := Option.some.inj (ho.symm.trans e1)
      have dp := dep_of' e5 hdep
      have V18 : a.tmps.getD 80 undef = .bool true := hI.val 18 80 (by decide) rfl (dp 18 (by decide))
      have U3 : a.tmps.getD 3 undef = .slice (some XT) qn ycc := (kp 3 (by decide)).trans u3
      obtain ⟨og, g1, g2, -, -, -⟩ := o18
      exact wpOp_value_b (v := .slice (some XT) qn ycc) (w' := w) ho e4 g1 g2 (by rw [hI.size]; exact Nat.lt_of_lt_of_le (by decide) hs) V18 (by simp [execOp, e3, ev, evc, V18, U3]) (by rw [e2]; exact go rfl (Below.refl _ _) hw rfl)
    · obtain ⟨o', e1, e2, e3, e4, e5⟩ := o25
      obtain rfl := Option.some.inj (ho.symm.trans e1)
      have dp := dep_of' e5 hdep
      have V18 : a.tmps.getD 80 undef = .bool true := hI.val 18 80 (by decide) rfl (dp 18 (by decide))
      have U6 : a.tmps.getD 6 undef = .int .i64 (kk : Nat) := (kp 6 (by decide)).trans u6
      obtain ⟨og, g1, g2, -, -, -⟩ := o18
      exact wpOp_value_b (v := .int .i64 (kk : Nat)) (w' := w) ho e4 g1 g2 (by rw [hI.size]; exact Nat.lt_of_lt_of_le (by decide) hs) V18 (by simp [execOp, e3, ev, evc, V18, U6]) (by rw [e2]; exact go rfl (Below.refl _ _) hw rfl)
    · obtain ⟨o', e1, e2, e3, e4, e5⟩ := o26
      obtain rfl := Option.some.inj (ho.symm.trans e1)
      have dp := dep_of' e5 hdep
      have V18 : a.tmps.getD 80 undef = .bool true := hI.val 18 80 (by decide) rfl (dp 18 (by decide))
      have V25 : a.tmps.getD 87 undef = .int .i64 (kk : Nat) := hI.val 25 87 (by decide) rfl (dp 25 (by decide))
      obtain ⟨og, g1, g2, -, -, -⟩ := o18
      exact wpOp_value_b (v := .int .i64 (KZ : Nat)) (w' := w) ho e4 g1 g2 (by rw [hI.size]; exact Nat.lt_of_lt_of_le (by decide) hs) V18 (by simp [execOp, e3, ev, evc, V18, V25, x26 w, eqGuard]) (by rw [e2]; exact go rfl (Below.refl _ _) hw rfl)
    · obtain ⟨o', e1, e2, e3, e4, e5⟩ := o27
      obtain rfl := Option.some.inj (ho.symm.trans e1)
      have dp := dep_of' e5 hdep
      have V18 : a.tmps.getD 80 undef = .bool true := hI.val 18 80 (by decide) rfl (dp 18 (by decide))
      have V24 : a.tmps.getD 86 undef = .slice (some XT) qn ycc := hI.val 24 86 (by decide) rfl (dp 24 (by decide))
      have V26 : a.tmps.getD 88 undef = .int .i64 (KZ : Nat) := hI.val 26 88 (by decide) rfl (dp 26 (by decide))
      obtain ⟨og, g1, g2, -, -, -⟩ := o18
      exact wpOp_value_b (v := .pointer (some YZ)) (w' := w) ho e4 g1 g2 (by rw [hI.size]; exact Nat.lt_of_lt_of_le (by decide) hs) V18 (by simp [execOp, e3, ev, evc, V18, V24, V26, x27 w]) (by rw [e2]; exact go rfl (Below.refl _ _) hw rfl)
    · obtain ⟨o', e1, e2, e3, e4, e5⟩ := o28
      obtain rfl := Option.some.inj (ho.symm.trans e1)
      have dp := dep_of' e5 hdep
      have V18 : a.tmps.getD 80 undef = .bool true := hI.val 18 80 (by decide) rfl (dp 18 (by decide))
      have V27 : a.tmps.getD 89 undef = .pointer (some YZ) := hI.val 27 89 (by decide) rfl (dp 27 (by decide))
      obtain ⟨og, g1, g2, -, -, -⟩ := o18
      exact wpOp_value_b (v := .pointer (some ⟨YZ.block, YZ.off + 1, none⟩)) (w' := w) ho e4 g1 g2 (by rw [hI.size]; exact Nat.lt_of_lt_of_le (by decide) hs) V18 (by simp [execOp, e3, ev, evc, V18, V27, x28 w]) (by rw [e2]; exact go rfl (Below.refl _ _) hw rfl)
    · obtain ⟨o', e1, e2, e3, e4, e5⟩ := o29
      obtain rfl := Option.some.inj (ho.symm.trans e1)
      have dp := dep_of' e5 hdep
      have V18 : a.tmps.getD 80 undef = .bool true := hI.val 18 80 (by decide) rfl (dp 18 (by decide))
      have V28 : a.tmps.getD 90 undef = .pointer (some ⟨YZ.block, YZ.off + 1, none⟩) := hI.val 28 90 (by decide) rfl (dp 28 (by decide))
      obtain ⟨og, g1, g2, -, -, -⟩ := o18
      exact wpOp_value_b (v := .int .i64 SZ) (w' := w) ho e4 g1 g2 (by rw [hI.size]; exact Nat.lt_of_lt_of_le (by decide) hs) V18 (by simp [execOp, e3, ev, evc, V18, V28, x29 w hw]) (by rw [e2]; exact go rfl (Below.refl _ _) hw rfl)
    · obtain ⟨o', e1, e2, e3, e4, e5⟩ := o30
      obtain rfl := Option.some.inj (ho.symm.trans e1)
      have dp := dep_of' e5 hdep
      have V18 : a.tmps.getD 80 undef = .bool true := hI.val 18 80 (by decide) rfl (dp 18 (by decide))
      have V23 : a.tmps.getD 85 undef = .int .i64 SS := hI.val 23 85 (by decide) rfl (dp 23 (by decide))
      have V29 : a.tmps.getD 91 undef = .int .i64 SZ := hI.val 29 91 (by decide) rfl (dp 29 (by decide))
      obtain ⟨og, g1, g2, -, -, -⟩ := o18
      exact wpOp_value_b (v := .bool false) (w' := w) ho e4 g1 g2 (by rw [hI.size]; exact Nat.lt_of_lt_of_le (by decide) hs) V18 (by simp [execOp, e3, ev, evc, V18, V23, V29, x30 w, eqGuard]) (by rw [e2]; exact go rfl (Below.refl _ _) hw rfl)
    · obtain ⟨o', e1, e2, e3, e4, e5⟩ := o31
      obtain rfl := Option.some.inj (ho.symm.trans e1)
      have dp := dep_of' e5 hdep
      have V15 : a.tmps.getD 77 undef = .bool false := hI.val 15 77 (by decide) rfl (dp 15 (by decide))
      have V18 : a.tmps.getD 80 undef = .bool true := hI.val 18 80 (by decide) rfl (dp 18 (by decide))
      have V30 : a.tmps.getD 92 undef = .bool false := hI.val 30 92 (by decide) rfl (dp 30 (by decide))
      obtain ⟨og, g1, g2, -, -, -⟩ := o15
      exact wpOp_value_b (v := .bool false) (w' := w) ho e4 g1 g2 (by rw [hI.size]; exact Nat.lt_of_lt_of_le (by decide) hs) V15 (by simp [execOp, e3, ev, evc, V15, V18, V30, asBool]) (by rw [e2]; exact go rfl (Below.refl _ _) hw rfl)
    · obtain ⟨o', e1, e2, e3, e4, e5⟩ := o32
      obtain rfl := Option.some.inj (ho.symm.trans e1)
      have dp := dep_of' e5 hdep
      have V15 : a.tmps.getD 77 undef = .bool false := hI.val 15 77 (by decide) rfl (dp 15 (by decide))
      have V31 : a.tmps.getD 93 undef = .bool false := hI.val 31 93 (by decide) rfl (dp 31 (by decide))
      exact wpOp_value (v := .bool false) (w' := w) ho e4 (by simp [execOp, e3, ev, evc, V15, V31, asBool]) (by rw [e2]; exact go rfl (Below.refl _ _) hw rfl)
  · intro l a w hall hI
    have all : ∀ j, j < 33 → l j = true := fun j hj => hall j (by rw [hsz]; exact hj)
    exact fin a w hI.size hI.defers hI.kept hI.world.1 (fun i d hi hD => hI.val i d hi hD (all i hi))

theorem oab_region {id : Nat} {ops : Array Oper} {Q : Exit → Act → World → Prop} {a0 : Act} {w0 : World} (bx nn qn kk pp lcc ycc ydd : Nat) (XL XT XP : Addr) (YY YZ : Addr) (SS SZ : Int) (KZ : Nat) (S : World → Prop) (hlow : lowB ops = true) (hsz : ops.size = 33)
    (o0 : OpIn ops 0 (some 62) (.move (.tmp 4)) none []) (o1 : OpIn ops 1 (some 63) (.move (.tmp 6)) none []) (o2 : OpIn ops 2 (some 64) (.indexAddr 29 (.tmp 62) (.tmp 63)) none [0, 1]) (o3 : OpIn ops 3 (some 65) (.load 3 (.tmp 64)) none [2]) (o4 : OpIn ops 4 (some 66) (.binOp .lss 3 (.tmp 65) (.const (.int .i64 0)) 3) none [3]) (o5 : OpIn ops 5 (some 67) (.move (.tmp 66)) none [4]) (o6 : OpIn ops 6 (some 68) (.move (.tmp 4)) (some (5, false)) [5]) (o7 : OpIn ops 7 (some 69) (.move (.tmp 6)) (some (5, false)) [5]) (o8 : OpIn ops 8 (some 70) (.indexAddr 29 (.tmp 68) (.tmp 69)) (some (5, false)) [5, 6, 7]) (o9 : OpIn ops 9 (some 71) (.load 3 (.tmp 70)) (some (5, false)) [5, 8]) (o10 : OpIn ops 10 (some 72) (.fieldAddr 25 (.tmp 1) 0) (some (5, false)) [5]) (o11 : OpIn ops 11 (some 73) (.load 22 (.tmp 72)) (some (5, false)) [5, 10]) (o12 : OpIn ops 12 (some 74) (.call { callee := .builtin .len, args := #[.tmp 73], argTypes := #[22] }) (some (5, false)) [5, 11]) (o13 : OpIn ops 13 (some 75) (.binOp .geq 3 (.tmp 71) (.tmp 74) 3) (some (5, false)) [5, 9, 12]) (o14 : OpIn ops 14 (some 76) (.pick (.tmp 67) (.const (.bool true)) (.tmp 75)) none [5, 13]) (o15 : OpIn ops 15 (some 77) (.move (.tmp 76)) none [14]) (o16 : OpIn ops 16 (some 78) (.move (.tmp 6)) (some (15, false)) [15]) (o17 : OpIn ops 17 (some 79) (.binOp .gtr 3 (.tmp 78) (.const (.int .i64 0)) 3) (some (15, false)) [15, 16]) (o18 : OpIn ops 18 (some 80) (.move (.tmp 79)) (some (15, false)) [15, 17]) (o19 : OpIn ops 19 (some 81) (.move (.tmp 3)) (some (18, true)) [18]) (o20 : OpIn ops 20 (some 82) (.move (.tmp 6)) (some (18, true)) [18]) (o21 : OpIn ops 21 (some 83) (.indexAddr 27 (.tmp 81) (.tmp 82)) (some (18, true)) [18, 19, 20]) (o22 : OpIn ops 22 (some 84) (.fieldAddr 40 (.tmp 83) 1) (some (18, true)) [18, 21]) (o23 : OpIn ops 23 (some 85) (.load 2 (.tmp 84)) (some (18, true)) [18, 22]) (o24 : OpIn ops 24 (some 86) (.move (.tmp 3)) (some (18, true)) [18]) (o25 : OpIn ops 25 (some 87) (.move (.tmp 6)) (some (18, true)) [18]) (o26 : OpIn ops 26 (some 88) (.binOp .sub 3 (.tmp 87) (.const (.int .i64 1)) 3) (some (18, true)) [18, 25]) (o27 : OpIn ops 27 (some 89) (.indexAddr 27 (.tmp 86) (.tmp 88)) (some (18, true)) [18, 24, 26]) (o28 : OpIn ops 28 (some 90) (.fieldAddr 40 (.tmp 89) 1) (some (18, true)) [18, 27]) (o29 : OpIn ops 29 (some 91) (.load 2 (.tmp 90)) (some (18, true)) [18, 28]) (o30 : OpIn ops 30 (some 92) (.binOp .gtr 2 (.tmp 85) (.tmp 91) 2) (some (18, true)) [18, 23, 29]) (o31 : OpIn ops 31 (some 93) (.pick (.tmp 80) (.tmp 92) (.const (.bool false))) (some (15, false)) [15, 18, 30]) (o32 : OpIn ops 32 (some 94) (.pick (.tmp 77) (.const (.bool true)) (.tmp 93)) none [15, 31])
    (hS : S w0.drew)
    (x2 : ∀ w, (Instr.indexAt 29 (.slice (some XP) qn ydd) (.int .i64 (kk : Nat))).run Try.prog w = .ok (.pointer (some (XP.add kk))) w)
    (x3 : ∀ w, S w → (Instr.loadAt 3 (.pointer (some (XP.add kk)))).run Try.prog w = .ok (.int .i64 (pp : Nat)) w)
    (x4 : ∀ w, (binOp .lss 3 (.int .i64 (pp : Nat)) (.int .i64 0)).run Try.prog w = .ok (.bool false) w)
    (x8 : ∀ w, (Instr.indexAt 29 (.slice (some XP) qn ydd) (.int .i64 (kk : Nat))).run Try.prog w = .ok (.pointer (some (XP.add kk))) w)
    (x9 : ∀ w, S w → (Instr.loadAt 3 (.pointer (some (XP.add kk)))).run Try.prog w = .ok (.int .i64 (pp : Nat)) w)
    (x10 : ∀ w, (Instr.fieldAt 25 (.pointer (some ⟨bx, 0, none⟩)) 0).run Try.prog w = .ok (.pointer (some ⟨bx, 0, none⟩)) w)
    (x11 : ∀ w, S w → (Instr.loadAt 22 (.pointer (some ⟨bx, 0, none⟩))).run Try.prog w = .ok (.slice (some XL) nn lcc) w)
    (x13 : ∀ w, (binOp .geq 3 (.int .i64 (pp : Nat)) (.int .i64 (nn : Nat))).run Try.prog w = .ok (.bool false) w)
    (hx : (∀ w, (binOp .gtr 3 (.int .i64 (kk : Nat)) (.int .i64 0)).run Try.prog w = .ok (.bool false) w) ∨ ((∀ w, (binOp .gtr 3 (.int .i64 (kk : Nat)) (.int .i64 0)).run Try.prog w = .ok (.bool true) w) ∧ (∀ w, (Instr.indexAt 27 (.slice (some XT) qn ycc) (.int .i64 (kk : Nat))).run Try.prog w = .ok (.pointer (some YY)) w) ∧ (∀ w, (Instr.fieldAt 40 (.pointer (some YY)) 1).run Try.prog w = .ok (.pointer (some ⟨YY.block, YY.off + 1, none⟩)) w) ∧ (∀ w, S w → (Instr.loadAt 2 (.pointer (some ⟨YY.block, YY.off + 1, none⟩))).run Try.prog w = .ok (.int .i64 SS) w) ∧ (∀ w, (binOp .sub 3 (.int .i64 (kk : Nat)) (.int .i64 1)).run Try.prog w = .ok (.int .i64 (KZ : Nat)) w) ∧ (∀ w, (Instr.indexAt 27 (.slice (some XT) qn ycc) (.int .i64 (KZ : Nat))).run Try.prog w = .ok (.pointer (some YZ)) w) ∧ (∀ w, (Instr.fieldAt 40 (.pointer (some YZ)) 1).run Try.prog w = .ok (.pointer (some ⟨YZ.block, YZ.off + 1, none⟩)) w) ∧ (∀ w, S w → (Instr.loadAt 2 (.pointer (some ⟨YZ.block, YZ.off + 1, none⟩))).run Try.prog w = .ok (.int .i64 SZ) w) ∧ (∀ w, (binOp .gtr 2 (.int .i64 SS) (.int .i64 SZ)).run Try.prog w = .ok (.bool false) w)))
    (u1 : a0.tmps.getD 1 undef = .pointer (some ⟨bx, 0, none⟩))
    (u3 : a0.tmps.getD 3 undef = .slice (some XT) qn ycc)
    (u4 : a0.tmps.getD 4 undef = .slice (some XP) qn ydd)
    (u6 : a0.tmps.getD 6 undef = .int .i64 (kk : Nat))
    (hs : 192 ≤ a0.tmps.size)
    (fin : ∀ a w, a.tmps.size = a0.tmps.size → a.defers = a0.defers → (∀ s, (∀ i, i < 33 → obD i ≠ some s) → a.tmps.getD s undef = a0.tmps.getD s undef) → S w → a.tmps.getD 94 undef = .bool false → Q .normal a w) : (Code.region id ops true).wp Try.prog Q a0 w0 := by
  rcases hx with x17 | ⟨x17, x21, x22, x23, x26, x27, x28, x29, x30⟩
  · exact oa_region bx nn qn kk pp lcc ycc ydd XL XT XP S hlow hsz o0 o1 o2 o3 o4 o5 o6 o7 o8 o9 o10 o11 o12 o13 o14 o15 o16 o17 o18 o19 o20 o21 o22 o23 o24 o25 o26 o27 o28 o29 o30 o31 o32 hS x2 x3 x4 x8 x9 x10 x11 x13 x17 u1 u3 u4 u6 hs (fun a w h1 h2 h3 h4 h5 => fin a w h1 h2 h3 h4 (h5 32 94 (by decide) rfl))
  · exact ob_region bx nn qn kk pp lcc ycc ydd XL XT XP YY YZ SS SZ KZ S hlow hsz o0 o1 o2 o3 o4 o5 o6 o7 o8 o9 o10 o11 o12 o13 o14 o15 o16 o17 o18 o19 o20 o21 o22 o23 o24 o25 o26 o27 o28 o29 o30 o31 o32 hS x2 x3 x4 x8 x9 x10 x11 x13 x17 x21 x22 x23 x26 x27 x28 x29 x30 u1 u3 u4 u6 hs (fun a w h1 h2 h3 h4 h5 => fin a w h1 h2 h3 h4 (h5 32 94 (by decide) rfl))
def ocD (i : Nat) : Option Nat := match i with | 0 => some 108 | 1 => some 109 | 2 => some 110 | 3 => some 111 | 4 => some 112 | 5 => some 113 | 6 => some 114 | 7 => some 115 | 8 => some 116 | 9 => some 117 | 10 => some 118 | 11 => some 119 | 12 => some 120 | 13 => some 121 | 14 => some 122 | 15 => some 123 | 16 => some 124 | 17 => some 125 | 18 => some 126 | 19 => some 127 | 20 => some 128 | 21 => some 129 | 22 => some 130 | 23 => some 131 | 24 => some 132 | 25 => some 133 | 26 => some 134 | _ => none
theorem ocD_inj : ∀ i, i < 27 → ∀ j, j < 27 → ocD i = ocD j → ocD i ≠ none → i = j := by decide
theorem ocD_lt : ∀ i, i < 27 → ∀ d, ocD i = some d → d < 192 := by
  intro i hi d h
  have : ∀ i, i < 27 → (ocD i).all (fun d => decide (d < 192)) = true := by decide
  have := this i hi
  rw [h] at this
  simpa using this
def ocF (qn kk ycc b7 TN crk cpp : Nat) (XT YY : Addr) (ark app : Option Addr) (SS : Int) (i : Nat) (q : Value) (w : World) : Prop := match i with
  | 0 => q = .slice (some XT) qn ycc
  | 1 => q = .int .i64 (kk : Nat)
  | 2 => q = .pointer (some YY)
  | 3 => q = .pointer (some ⟨YY.block, YY.off + 2, none⟩)
  | 4 => q = .bool true
  | 5 => q = .bool false
  | 6 => q = .bool false
  | 7 => q = .slice (some XT) qn ycc
  | 8 => q = .int .i64 (kk : Nat)
  | 9 => q = .pointer (some YY)
  | 10 => q = .pointer (some YY)
  | 11 => q = .slice ark TN crk
  | 12 => q = .pointer (some ⟨b7, 0, none⟩)
  | 13 => q = .slice app TN cpp
  | 14 => q = .bool true
  | 15 => q = .bool false
  | 16 => q = .bool false
  | 17 => q = .bool false
  | 18 => q = .slice (some XT) qn ycc
  | 19 => q = .int .i64 (kk : Nat)
  | 20 => q = .pointer (some YY)
  | 21 => q = .pointer (some ⟨YY.block, YY.off + 1, none⟩)
  | 22 => q = .int .i64 SS
  | 23 => q = .pointer (some ⟨b7, 1, none⟩)
  | 24 => q = .int .i64 SS
  | 25 => q = .bool false
  | 26 => q = .bool false
  | _ => True
theorem ocF_below {qn kk ycc b7 TN crk cpp : Nat} {XT YY : Addr} {ark app : Option Addr} {SS : Int} {i : Nat} {q : Value} {w w' : World} (h : ocF qn kk ycc b7 TN crk cpp XT YY ark app SS i q w) (hb : Below w.heap.size w w') : ocF qn kk ycc b7 TN crk cpp XT YY ark app SS i q w' := by
  unfold ocF at h ⊢
  split
  · exact h
  · exact h
  · exact h
  · exact h
  · exact h
  · exact h
  · exact h
  · exact h
  · exact h
  · exact h
  · exact h
  · exact h
  · exact h
  · exact h
  · exact h
  · exact h
  · exact h
  · exact h
  · exact h
  · exact h
  · exact h
  · exact h
  · exact h
  · exact h
  · exact h
  · exact h
  · exact h
  · trivial

set_option maxHeartbeats 8000000 in
theorem oc_region {id : Nat} {ops : Array Oper} {Q : Exit → Act → World → Prop} {a0 : Act} {w0 : World} (qn kk ycc b7 TN crk cpp : Nat) (XT YY : Addr) (ark app : Option Addr) (SS : Int) (S : World → Prop) (hlow : lowB ops = true) (hsz : ops.size = 27)
    (o0 : OpIn ops 0 (some 108) (.move (.tmp 3)) none []) (o1 : OpIn ops 1 (some 109) (.move (.tmp 6)) none []) (o2 : OpIn ops 2 (some 110) (.indexAddr 27 (.tmp 108) (.tmp 109)) none [0, 1]) (o3 : OpIn ops 3 (some 111) (.fieldAddr 40 (.tmp 110) 2) none [2]) (o4 : OpIn ops 4 (some 112) (.load 4 (.tmp 111)) none [3]) (o5 : OpIn ops 5 (some 113) (.unOp .not 4 (.tmp 112)) none [4]) (o6 : OpIn ops 6 (some 114) (.move (.tmp 113)) none [5]) (o7 : OpIn ops 7 (some 115) (.move (.tmp 3)) (some (6, false)) [6]) (o8 : OpIn ops 8 (some 116) (.move (.tmp 6)) (some (6, false)) [6]) (o9 : OpIn ops 9 (some 117) (.indexAddr 27 (.tmp 115) (.tmp 116)) (some (6, false)) [6, 7, 8]) (o10 : OpIn ops 10 (some 118) (.fieldAddr 40 (.tmp 117) 0) (some (6, false)) [6, 9]) (o11 : OpIn ops 11 (some 119) (.load 29 (.tmp 118)) (some (6, false)) [6, 10]) (o12 : OpIn ops 12 (some 120) (.fieldAddr 42 (.tmp 7) 0) (some (6, false)) [6]) (o13 : OpIn ops 13 (some 121) (.load 29 (.tmp 120)) (some (6, false)) [6, 12]) (o14 : OpIn ops 14 (some 122) (.call { callee := .value (.func 14), args := #[.tmp 119, .tmp 121], argTypes := #[29, 29] }) (some (6, false)) [6, 11, 13]) (o15 : OpIn ops 15 (some 123) (.unOp .not 4 (.tmp 122)) (some (6, false)) [6, 14]) (o16 : OpIn ops 16 (some 124) (.pick (.tmp 114) (.const (.bool true)) (.tmp 123)) none [6, 15]) (o17 : OpIn ops 17 (some 125) (.move (.tmp 124)) none [16]) (o18 : OpIn ops 18 (some 126) (.move (.tmp 3)) (some (17, false)) [17]) (o19 : OpIn ops 19 (some 127) (.move (.tmp 6)) (some (17, false)) [17]) (o20 : OpIn ops 20 (some 128) (.indexAddr 27 (.tmp 126) (.tmp 127)) (some (17, false)) [17, 18, 19]) (o21 : OpIn ops 21 (some 129) (.fieldAddr 40 (.tmp 128) 1) (some (17, false)) [17, 20]) (o22 : OpIn ops 22 (some 130) (.load 2 (.tmp 129)) (some (17, false)) [17, 21]) (o23 : OpIn ops 23 (some 131) (.fieldAddr 42 (.tmp 7) 1) (some (17, false)) [17]) (o24 : OpIn ops 24 (some 132) (.load 2 (.tmp 131)) (some (17, false)) [17, 23]) (o25 : OpIn ops 25 (some 133) (.binOp .neq 2 (.tmp 130) (.tmp 132) 2) (some (17, false)) [17, 22, 24]) (o26 : OpIn ops 26 (some 134) (.pick (.tmp 125) (.const (.bool true)) (.tmp 133)) none [17, 25])
    (hS : S w0.drew)
    (x2 : ∀ w, (Instr.indexAt 27 (.slice (some XT) qn ycc) (.int .i64 (kk : Nat))).run Try.prog w = .ok (.pointer (some YY)) w)
    (x3 : ∀ w, (Instr.fieldAt 40 (.pointer (some YY)) 2).run Try.prog w = .ok (.pointer (some ⟨YY.block, YY.off + 2, none⟩)) w)
    (x4 : ∀ w, S w → (Instr.loadAt 4 (.pointer (some ⟨YY.block, YY.off + 2, none⟩))).run Try.prog w = .ok (.bool true) w)
    (x9 : ∀ w, (Instr.indexAt 27 (.slice (some XT) qn ycc) (.int .i64 (kk : Nat))).run Try.prog w = .ok (.pointer (some YY)) w)
    (x10 : ∀ w, (Instr.fieldAt 40 (.pointer (some YY)) 0).run Try.prog w = .ok (.pointer (some YY)) w)
    (x11 : ∀ w, S w → (Instr.loadAt 29 (.pointer (some YY))).run Try.prog w = .ok (.slice ark TN crk) w)
    (x12 : ∀ w, (Instr.fieldAt 42 (.pointer (some ⟨b7, 0, none⟩)) 0).run Try.prog w = .ok (.pointer (some ⟨b7, 0, none⟩)) w)
    (x13 : ∀ w, S w → (Instr.loadAt 29 (.pointer (some ⟨b7, 0, none⟩))).run Try.prog w = .ok (.slice app TN cpp) w)
    (x14 : ∀ w, S w → Calls Try.prog 14 #[.slice ark TN crk, .slice app TN cpp] w fun e w' => e = .returned (.bool true) ∧ Below w.heap.size w w' ∧ S w')
    (x20 : ∀ w, (Instr.indexAt 27 (.slice (some XT) qn ycc) (.int .i64 (kk : Nat))).run Try.prog w = .ok (.pointer (some YY)) w)
    (x21 : ∀ w, (Instr.fieldAt 40 (.pointer (some YY)) 1).run Try.prog w = .ok (.pointer (some ⟨YY.block, YY.off + 1, none⟩)) w)
    (x22 : ∀ w, S w → (Instr.loadAt 2 (.pointer (some ⟨YY.block, YY.off + 1, none⟩))).run Try.prog w = .ok (.int .i64 SS) w)
    (x23 : ∀ w, (Instr.fieldAt 42 (.pointer (some ⟨b7, 0, none⟩)) 1).run Try.prog w = .ok (.pointer (some ⟨b7, 1, none⟩)) w)
    (x24 : ∀ w, S w → (Instr.loadAt 2 (.pointer (some ⟨b7, 1, none⟩))).run Try.prog w = .ok (.int .i64 SS) w)
    (x25 : ∀ w, (binOp .neq 2 (.int .i64 SS) (.int .i64 SS)).run Try.prog w = .ok (.bool false) w)
    (u3 : a0.tmps.getD 3 undef = .slice (some XT) qn ycc)
    (u6 : a0.tmps.getD 6 undef = .int .i64 (kk : Nat))
    (u7 : a0.tmps.getD 7 undef = .pointer (some ⟨b7, 0, none⟩))
    (hs : 192 ≤ a0.tmps.size)
    (fin : ∀ a w, a.tmps.size = a0.tmps.size → a.defers = a0.defers → (∀ s, (∀ i, i < 27 → ocD i ≠ some s) → a.tmps.getD s undef = a0.tmps.getD s undef) → S w → (∀ i d, i < 27 → ocD i = some d → ocF qn kk ycc b7 TN crk cpp XT YY ark app SS i (a.tmps.getD d undef) w) → Q .normal a w) : (Code.region id ops true).wp Try.prog Q a0 w0 := by
  have r14 : ∀ args w, (callFunc 14 args).run Try.prog w = .ok (.enter 14 args) w := enters_of Try.func14 (by kernel_rfl) rfl
  refine wp_region_inv2 (by kernel_rfl) hlow (Inv 27 ocD a0 (fun l a w => S w ∧ Kept2 27 ocD a0 l a) (fun _ => ocF qn kk ycc b7 TN crk cpp XT YY ark app SS)) (Inv.start ⟨hS, kept2_start _ _ _⟩) ?_ ?_
  · intro l i o a w ho hl hcl hdep hI
    have hi : i < 27 := by rw [← hsz]; exact (Array.getElem?_eq_some_iff.1 ho).1
    have ev : ∀ (s : Nat), a.eval (.tmp s) = a.tmps.getD s undef := fun _ => rfl
    have evf : ∀ f, a.eval (.func f) = .func (.func f) #[] #[] := fun _ => rfl
    have evc : ∀ c : Value, a.eval (.const c) = c := fun _ => rfl
    have inj : ∀ d, ocD i = some d → ∀ j d', j < 27 → ocD j = some d' → j ≠ i → d' ≠ d := fun d hd j d' hj hd' hne e => hne (ocD_inj j hj i hi (by rw [hd', hd, e]) (by rw [hd']; simp))
    have kp : ∀ s, (∀ i, i < 27 → ocD i ≠ some s) → a.tmps.getD s undef = a0.tmps.getD s undef := hI.kept
    have hw : S w := hI.world.1
    have k2 := hI.world.2
    have ex0 := hI.world.2
    have go : ∀ {d : Nat} {v : Value} {w' : World}, ocD i = some d → Below w.heap.size w w' → S w' → ocF qn kk ycc b7 TN crk cpp XT YY ark app SS i v w' → Inv 27 ocD a0 (fun l a w => S w ∧ Kept2 27 ocD a0 l a) (fun _ => ocF qn kk ycc b7 TN crk cpp XT YY ark app SS) (fun j => l j || j == i) (a.put (some d) v) w' := by
      intro d v w' hD hb hS' hF
      exact hI.put hi hD (Nat.lt_of_lt_of_le (ocD_lt i hi d hD) hs) (inj d hD) ⟨hS', k2.put hD (by rw [hI.size]; exact Nat.lt_of_lt_of_le (ocD_lt i hi d hD) hs) hi⟩ hF (fun j u _ _ _ hf => ocF_below hf hb)
    rcases (show i = 0 ∨ i = 1 ∨ i = 2 ∨ i = 3 ∨ i = 4 ∨ i = 5 ∨ i = 6 ∨ i = 7 ∨ i = 8 ∨ i = 9 ∨ i = 10 ∨ i = 11 ∨ i = 12 ∨ i = 13 ∨ i = 14 ∨ i = 15 ∨ i = 16 ∨ i = 17 ∨ i = 18 ∨ i = 19 ∨ i = 20 ∨ i = 21 ∨ i = 22 ∨ i = 23 ∨ i = 24 ∨ i = 25 ∨ i = 26 by omega) with rfl | rfl | rfl | rfl | rfl | rfl | rfl | rfl | rfl | rfl | rfl | rfl | rfl | rfl | rfl | rfl | rfl | rfl | rfl | rfl | rfl | rfl | rfl | rfl | rfl | rfl | rfl
    · obtain ⟨o', e1, e2, e3, e4, e5⟩ := o0
      obtain rfl := Option.some.inj (ho.symm.trans e1)
      have dp := dep_of' e5 hdep
      have U3 : a.tmps.getD 3 undef = .slice (some XT) qn ycc := (kp 3 (by decide)).trans u3
      exact wpOp_value (v := .slice (some XT) qn ycc) (w' := w) ho e4 (by simp [execOp, e3, ev, evc, U3]) (by rw [e2]; exact go rfl (Below.refl _ _) hw rfl)
    · obtain ⟨o', e1, e2, e3, e4, e5⟩ := o1
      obtain rfl := Option.some.inj (ho.symm.trans e1)
      have dp := dep_of' e5 hdep
      have U6 : a.tmps.getD 6 undef = .int .i64 (kk : Nat) := (kp 6 (by decide)).trans u6
      exact wpOp_value (v := .int .i64 (kk : Nat)) (w' := w) ho e4 (by simp [execOp, e3, ev, evc, U6]) (by rw [e2]; exact go rfl (Below.refl _ _) hw rfl)
    · obtain ⟨o', e1, e2, e3, e4, e5⟩ := o2
      obtain rfl := Option.some.inj (ho.symm.trans e1)
      have dp := dep_of' e5 hdep
      have V0 : a.tmps.getD 108 undef = .slice (some XT) qn ycc := hI.val 0 108 (by decide) rfl (dp 0 (by decide))
      have V1 : a.tmps.getD 109 undef = .int .i64 (kk : Nat) := hI.val 1 109 (by decide) rfl (dp 1 (by decide))
      exact wpOp_value (v := .pointer (some YY)) (w' := w) ho e4 (by simp [execOp, e3, ev, evc, V0, V1, x2 w]) (by rw [e2]; exact go rfl (Below.refl _ _) hw rfl)
    · obtain ⟨o', e1, e2, e3, e4, e5⟩ := o3
      obtain rfl := Option.some.inj (ho.symm.trans e1)
      have dp := dep_of' e5 hdep
      have V2 : a.tmps.getD 110 undef = .pointer (some YY) := hI.val 2 110 (by decide) rfl (dp 2 (by decide))
      exact wpOp_value (v := .pointer (some ⟨YY.block, YY.off + 2, none⟩)) (w' := w) ho e4 (by simp [execOp, e3, ev, evc, V2, x3 w]) (by rw [e2]; exact go rfl (Below.refl _ _) hw rfl)
    · obtain ⟨o', e1, e2, e3, e4, e5⟩ := o4
      obtain rfl := Option.some.inj (ho.symm.trans e1)
      have dp := dep_of' e5 hdep
      have V3 : a.tmps.getD 111 undef = .pointer (some ⟨YY.block, YY.off + 2, none⟩) := hI.val 3 111 (by decide) rfl (dp 3 (by decide))
      exact wpOp_value (v := .bool true) (w' := w) ho e4 (by simp [execOp, e3, ev, evc, V3, x4 w hw]) (by rw [e2]; exact go rfl (Below.refl _ _) hw rfl)
    · obtain ⟨o', e1, e2, e3, e4, e5⟩ := o5
      obtain rfl := Option.some.inj (ho.symm.trans e1)
      have dp := dep_of' e5 hdep
      have V4 : a.tmps.getD 112 undef = .bool true := hI.val 4 112 (by decide) rfl (dp 4 (by decide))
      exact wpOp_value (v := .bool false) (w' := w) ho e4 (by simp [execOp, e3, ev, evc, V4, Op.unary]) (by rw [e2]; exact go rfl (Below.refl _ _) hw rfl)
    · obtain ⟨o', e1, e2, e3, e4, e5⟩ := o6
      obtain rfl := Option.some.inj (ho.symm.trans e1)
      have dp := dep_of' e5 hdep
      have V5 : a.tmps.getD 113 undef = .bool false := hI.val 5 113 (by decide) rfl (dp 5 (by decide))
      exact wpOp_value (v := .bool false) (w' := w) ho e4 (by simp [execOp, e3, ev, evc, V5]) (by rw [e2]; exact go rfl (Below.refl _ _) hw rfl)
    · obtain ⟨o', e1, e2, e3, e4, e5⟩ := o7
      obtain rfl := Option.some.inj (ho.symm.trans e1)
      have dp := dep_of' e5 hdep
      have V6 : a.tmps.getD 114 undef = .bool false := hI.val 6 114 (by decide) rfl (dp 6 (by decide))
      have U3 : a.tmps.getD 3 undef = .slice (some XT) qn ycc := (kp 3 (by decide)).trans u3
      obtain ⟨og, g1, g2, -, -, -⟩ := o6
      exact wpOp_value_b (v := .slice (some XT) qn ycc) (w' := w) ho e4 g1 g2 (by rw [hI.size]; exact Nat.lt_of_lt_of_le (by decide) hs) V6 (by simp [execOp, e3, ev, evc, V6, U3]) (by rw [e2]; exact go rfl (Below.refl _ _) hw rfl)
    · obtain ⟨o', e1, e2, e3, e4, e5⟩ := o8
      obtain rfl := Option.some.inj (ho.symm.trans e1)
      have dp := dep_of' e5 hdep
      have V6 : a.tmps.getD 114 undef = .bool false := hI.val 6 114 (by decide) rfl (dp 6 (by decide))
      have U6 : a.tmps.getD 6 undef = .int .i64 (kk : Nat) := (kp 6 (by decide)).trans u6
      obtain ⟨og, g1, g2, -, -, -⟩ := o6
      exact wpOp_value_b (v := .int .i64 (kk : Nat)) (w' := w) ho e4 g1 g2 (by rw [hI.size]; exact Nat.lt_of_lt_of_le (by decide) hs) V6 (by simp [execOp, e3, ev, evc, V6, U6]) (by rw [e2]; exact go rfl (Below.refl _ _) hw rfl)
    · obtain ⟨o', e1, e2, e3, e4, e5⟩ := o9
      obtain rfl := Option.some.inj (ho.symm.trans e1)
      have dp := dep_of' e5 hdep
      have V6 : a.tmps.getD 114 undef = .bool false := hI.val 6 114 (by decide) rfl (dp 6 (by decide))
      have V7 : a.tmps.getD 115 undef = .slice (some XT) qn ycc := hI.val 7 115 (by decide) rfl (dp 7 (by decide))
      have V8 : a.tmps.getD 116 undef = .int .i64 (kk : Nat) := hI.val 8 116 (by decide) rfl (dp 8 (by decide))
      obtain ⟨og, g1, g2, -, -, -⟩ := o6
      exact wpOp_value_b (v := .pointer (some YY)) (w' := w) ho e4 g1 g2 (by rw [hI.size]; exact Nat.lt_of_lt_of_le (by decide) hs) V6 (by simp [execOp, e3, ev, evc, V6, V7, V8, x9 w]) (by rw [e2]; exact go rfl (Below.refl _ _) hw rfl)
    · obtain ⟨o', e1, e2, e3, e4, e5⟩ := o10
      obtain rfl := Option.some.inj (ho.symm.trans e1)
      have dp := dep_of' e5 hdep
      have V6 : a.tmps.getD 114 undef = .bool false := hI.val 6 114 (by decide) rfl (dp 6 (by decide))
      have V9 : a.tmps.getD 117 undef = .pointer (some YY) := hI.val 9 117 (by decide) rfl (dp 9 (by decide))
      obtain ⟨og, g1, g2, -, -, -⟩ := o6
      exact wpOp_value_b (v := .pointer (some YY)) (w' := w) ho e4 g1 g2 (by rw [hI.size]; exact Nat.lt_of_lt_of_le (by decide) hs) V6 (by simp [execOp, e3, ev, evc, V6, V9, x10 w]) (by rw [e2]; exact go rfl (Below.refl _ _) hw rfl)
    · obtain ⟨o', e1, e2, e3, e4, e5⟩ := o11
      obtain rfl := Option.some.inj (ho.symm.trans e1)
      have dp := dep_of' e5 hdep
      have V6 : a.tmps.getD 114 undef = .bool false := hI.val 6 114 (by decide) rfl (dp 6 (by decide))
      have V10 : a.tmps.getD 118 undef = .pointer (some YY) := hI.val 10 118 (by decide) rfl (dp 10 (by decide))
      obtain ⟨og, g1, g2, -, -, -⟩ := o6
      exact wpOp_value_b (v := .slice ark TN crk) (w' := w) ho e4 g1 g2 (by rw [hI.size]; exact Nat.lt_of_lt_of_le (by decide) hs) V6 (by simp [execOp, e3, ev, evc, V6, V10, x11 w hw]) (by rw [e2]; exact go rfl (Below.refl _ _) hw rfl)
    · obtain ⟨o', e1, e2, e3, e4, e5⟩ := o12
      obtain rfl := Option.some.inj (ho.symm.trans e1)
      have dp := dep_of' e5 hdep
      have V6 : a.tmps.getD 114 undef = .bool false := hI.val 6 114 (by decide) rfl (dp 6 (by decide))
      have U7 : a.tmps.getD 7 undef = .pointer (some ⟨b7, 0, none⟩) := (kp 7 (by decide)).trans u7
      obtain ⟨og, g1, g2, -, -, -⟩ := o6
      exact wpOp_value_b (v := .pointer (some ⟨b7, 0, none⟩)) (w' := w) ho e4 g1 g2 (by rw [hI.size]; exact Nat.lt_of_lt_of_le (by decide) hs) V6 (by simp [execOp, e3, ev, evc, V6, U7, x12 w]) (by rw [e2]; exact go rfl (Below.refl _ _) hw rfl)
    · obtain ⟨o', e1, e2, e3, e4, e5⟩ := o13
      obtain rfl := Option.some.inj (ho.symm.trans e1)
      have dp := dep_of' e5 hdep
      have V6 : a.tmps.getD 114 undef = .bool false := hI.val 6 114 (by decide) rfl (dp 6 (by decide))
      have V12 : a.tmps.getD 120 undef = .pointer (some ⟨b7, 0, none⟩) := hI.val 12 120 (by decide) rfl (dp 12 (by decide))
      obtain ⟨og, g1, g2, -, -, -⟩ := o6
      exact wpOp_value_b (v := .slice app TN cpp) (w' := w) ho e4 g1 g2 (by rw [hI.size]; exact Nat.lt_of_lt_of_le (by decide) hs) V6 (by simp [execOp, e3, ev, evc, V6, V12, x13 w hw]) (by rw [e2]; exact go rfl (Below.refl _ _) hw rfl)
    · obtain ⟨o', e1, e2, e3, e4, e5⟩ := o14
      obtain rfl := Option.some.inj (ho.symm.trans e1)
      have dp := dep_of' e5 hdep
      have V6 : a.tmps.getD 114 undef = .bool false := hI.val 6 114 (by decide) rfl (dp 6 (by decide))
      have V11 : a.tmps.getD 119 undef = .slice ark TN crk := hI.val 11 119 (by decide) rfl (dp 11 (by decide))
      have V13 : a.tmps.getD 121 undef = .slice app TN cpp := hI.val 13 121 (by decide) rfl (dp 13 (by decide))
      obtain ⟨og, g1, g2, -, -, -⟩ := o6
      refine wpOp_call_b (f := 14) (args := #[.slice ark TN crk, .slice app TN cpp]) ho e4 g1 g2 (by rw [hI.size]; exact Nat.lt_of_lt_of_le (by decide) hs) V6 (by simp [execOp, e3, resolve, invoke, Deferred.ofValue, r14, ev, evf, evc, V6, V11, V13]) ((x14 w hw).mono ?_)
      rintro e W' ⟨rfl, hb6, hs6⟩
      refine ⟨_, rfl, ?_⟩
      rw [e2]
      exact go rfl hb6 hs6 rfl
    · obtain ⟨o', e1, e2, e3, e4, e5⟩ := o15
      obtain rfl := Option.some.inj (ho.symm.trans e1)
      have dp := dep_of' e5 hdep
      have V6 : a.tmps.getD 114 undef = .bool false := hI.val 6 114 (by decide) rfl (dp 6 (by decide))
      have V14 : a.tmps.getD 122 undef = .bool true := hI.val 14 122 (by decide) rfl (dp 14 (by decide))
      obtain ⟨og, g1, g2, -, -, -⟩ := o6
      exact wpOp_value_b (v := .bool false) (w' := w) ho e4 g1 g2 (by rw [hI.size]; exact Nat.lt_of_lt_of_le (by decide) hs) V6 (by simp [execOp, e3, ev, evc, V6, V14, Op.unary]) (by rw [e2]; exact go rfl (Below.refl _ _) hw rfl)
    · obtain ⟨o', e1, e2, e3, e4, e5⟩ := o16
      obtain rfl := Option.some.inj (ho.symm.trans e1)
      have dp := dep_of' e5 hdep
      have V6 : a.tmps.getD 114 undef = .bool false := hI.val 6 114 (by decide) rfl (dp 6 (by decide))
      have V15 : a.tmps.getD 123 undef = .bool false := hI.val 15 123 (by decide) rfl (dp 15 (by decide))
      exact wpOp_value (v := .bool false) (w' := w) ho e4 (by simp [execOp, e3, ev, evc, V6, V15, asBool]) (by rw [e2]; exact go rfl (Below.refl _ _) hw rfl)
    · obtain ⟨o', e1, e2, e3, e4, e5⟩ := o17
      obtain rfl := Option.some.inj (ho.symm.trans e1)
      have dp := dep_of' e5 hdep
      have V16 : a.tmps.getD 124 undef = .bool false := hI.val 16 124 (by decide) rfl (dp 16 (by decide))
      exact wpOp_value (v := .bool false) (w' := w) ho e4 (by simp [execOp, e3, ev, evc, V16]) (by rw [e2]; exact go rfl (Below.refl _ _) hw rfl)
    · obtain ⟨o', e1, e2, e3, e4, e5⟩ := o18
      obtain rfl := Option.some.inj (ho.symm.trans e1)
      have dp := dep_of' e5 hdep
      have V17 : a.tmps.getD 125 undef = .bool false := hI.val 17 125 (by decide) rfl (dp 17 (by decide))
      have U3 : a.tmps.getD 3 undef = .slice (some XT) qn ycc := (kp 3 (by decide)).trans u3
      obtain ⟨og, g1, g2, -, -, -⟩ := o17
      exact wpOp_value_b (v := .slice (some XT) qn ycc) (w' := w) ho e4 g1 g2 (by rw [hI.size]; exact Nat.lt_of_lt_of_le (by decide) hs) V17 (by simp [execOp, e3, ev, evc, V17, U3]) (by rw [e2]; exact go rfl (Below.refl _ _) hw rfl)
    · obtain ⟨o', e1, e2, e3, e4, e5⟩ := o19
      obtain rfl := Option.some.inj (ho.symm.trans e1)
      have dp := dep_of' e5 hdep
      have V17 : a.tmps.getD 125 undef = .bool false := hI.val 17 125 (by decide) rfl (dp 17 (by decide))
      have U6 : a.tmps.getD 6 undef = .int .i64 (kk : Nat) := (kp 6 (by decide)).trans u6
      obtain ⟨og, g1, g2, -, -, -⟩ := o17
      exact wpOp_value_b (v := .int .i64 (kk : Nat)) (w' := w) ho e4 g1 g2 (by rw [hI.size]; exact Nat.lt_of_lt_of_le (by decide) hs) V17 (by simp [execOp, e3, ev, evc, V17, U6]) (by rw [e2]; exact go rfl (Below.refl _ _) hw rfl)
    · obtain ⟨o', e1, e2, e3, e4, e5⟩ := o20
      obtain rfl := Option.some.inj (ho.symm.trans e1)
      have dp := dep_of' e5 hdep
      have V17 : a.tmps.getD 125 undef = .bool false := hI.val 17 125 (by decide) rfl (dp 17 (by decide))
      have V18 : a.tmps.getD 126 undef = .slice (some XT) qn ycc := hI.val 18 126 (by decide) rfl (dp 18 (by decide))
      have V19 : a.tmps.getD 127 undef = .int .i64 (kk : Nat) := hI.val 19 127 (by decide) rfl (dp 19 (by decide))
      obtain ⟨og, g1, g2, -, -, -⟩ := o17
      exact wpOp_value_b (v := .pointer (some YY)) (w' := w) ho e4 g1 g2 (by rw [hI.size]; exact Nat.lt_of_lt_of_le (by decide) hs) V17 (by simp [execOp, e3, ev, evc, V17, V18, V19, x20 w]) (by rw [e2]; exact go rfl (Below.refl _ _) hw rfl)
    · obtain ⟨o', e1, e2, e3, e4, e5⟩ := o21
      obtain rfl := Option.some.inj (ho.symm.trans e1)
      have dp := dep_of' e5 hdep
      have V17 : a.tmps.getD 125 undef = .bool false := hI.val 17 125 (by decide) rfl (dp 17 (by decide))
      have V20 : a.tmps.getD 128 undef = .pointer (some YY) := hI.val 20 128 (by decide) rfl (dp 20 (by decide))
      obtain ⟨og, g1, g2, -, -, -⟩ := o17
      exact wpOp_value_b (v := .pointer (some ⟨YY.block, YY.off + 1, none⟩)) (w' := w) ho e4 g1 g2 (by rw [hI.size]; exact Nat.lt_of_lt_of_le (by decide) hs) V17 (by simp [execOp, e3, ev, evc, V17, V20, x21 w]) (by rw [e2]; exact go rfl (Below.refl _ _) hw rfl)
    · obtain ⟨o', e1, e2, e3, e4, e5⟩ := o22
      obtain rfl := Option.some.inj (ho.symm.trans e1)
      have dp := dep_of' e5 hdep
      have V17 : a.tmps.getD 125 undef = .bool false := hI.val 17 125 (by decide) rfl (dp 17 (by decide))
      have V21 : a.tmps.getD 129 undef = .pointer (some ⟨YY.block, YY.off + 1, none⟩) := hI.val 21 129 (by decide) rfl (dp 21 (by decide))
      obtain ⟨og, g1, g2, -, -, -⟩ := o17
      exact wpOp_value_b (v := .int .i64 SS) (w' := w) ho e4 g1 g2 (by rw [hI.size]; exact Nat.lt_of_lt_of_le (by decide) hs) V17 (by simp [execOp, e3, ev, evc, V17, V21, x22 w hw]) (by rw [e2]; exact go rfl (Below.refl _ _) hw rfl)
    · obtain ⟨o', e1, e2, e3, e4, e5⟩ := o23
      obtain rfl := Option.some.inj (ho.symm.trans e1)
      have dp := dep_of' e5 hdep
      have V17 : a.tmps.getD 125 undef = .bool false := hI.val 17 125 (by decide) rfl (dp 17 (by decide))
      have U7 : a.tmps.getD 7 undef = .pointer (some ⟨b7, 0, none⟩) := (kp 7 (by decide)).trans u7
      obtain ⟨og, g1, g2, -, -, -⟩ := o17
      exact wpOp_value_b (v := .pointer (some ⟨b7, 1, none⟩)) (w' := w) ho e4 g1 g2 (by rw [hI.size]; exact Nat.lt_of_lt_of_le (by decide) hs) V17 (by simp [execOp, e3, ev, evc, V17, U7, x23 w]) (by rw [e2]; exact go rfl (Below.refl _ _) hw rfl)
    · obtain ⟨o', e1, e2, e3, e4, e5⟩ := o24
      obtain rfl := Option.some.inj (ho.symm.trans e1)
      have dp := dep_of' e5 hdep
      have V17 : a.tmps.getD 125 undef = .bool false := hI.val 17 125 (by decide) rfl (dp 17 (by decide))
      have V23 : a.tmps.getD 131 undef = .pointer (some ⟨b7, 1, none⟩) := hI.val 23 131 (by decide) rfl (dp 23 (by decide))
      obtain ⟨og, g1, g2, -, -, -⟩ := o17
      exact wpOp_value_b (v := .int .i64 SS) (w' := w) ho e4 g1 g2 (by rw [hI.size]; exact Nat.lt_of_lt_of_le (by decide) hs) V17 (by simp [execOp, e3, ev, evc, V17, V23, x24 w hw]) (by rw [e2]; exact go rfl (Below.refl _ _) hw rfl)
    · obtain ⟨o', e1, e2, e3, e4, e5⟩ := o25
      obtain rfl := Option.some.inj (ho.symm.trans e1)
      have dp := dep_of' e5 hdep
      have V17 : a.tmps.getD 125 undef = .bool false := hI.val 17 125 (by decide) rfl (dp 17 (by decide))
      have V22 : a.tmps.getD 130 undef = .int .i64 SS := hI.val 22 130 (by decide) rfl (dp 22 (by decide))
      have V24 : a.tmps.getD 132 undef = .int .i64 SS := hI.val 24 132 (by decide) rfl (dp 24 (by decide))
      obtain ⟨og, g1, g2, -, -, -⟩ := o17
      exact wpOp_value_b (v := .bool false) (w' := w) ho e4 g1 g2 (by rw [hI.size]; exact Nat.lt_of_lt_of_le (by decide) hs) V17 (by simp [execOp, e3, ev, evc, V17, V22, V24, x25 w, eqGuard]) (by rw [e2]; exact go rfl (Below.refl _ _) hw rfl)
    · obtain ⟨o', e1, e2, e3, e4, e5⟩ := o26
      obtain rfl := Option.some.inj (ho.symm.trans e1)
      have dp := dep_of' e5 hdep
      have V17 : a.tmps.getD 125 undef = .bool false := hI.val 17 125 (by decide) rfl (dp 17 (by decide))
      have V25 : a.tmps.getD 133 undef = .bool false := hI.val 25 133 (by decide) rfl (dp 25 (by decide))
      exact wpOp_value (v := .bool false) (w' := w) ho e4 (by simp [execOp, e3, ev, evc, V17, V25, asBool]) (by rw [e2]; exact go rfl (Below.refl _ _) hw rfl)
  · intro l a w hall hI
    have all : ∀ j, j < 27 → l j = true := fun j hj => hall j (by rw [hsz]; exact hj)
    exact fin a w hI.size hI.defers hI.kept hI.world.1 (fun i d hi hD => hI.val i d hi hD (all i hi))

def odD (i : Nat) : Option Nat := match i with | 0 => some 135 | 1 => some 136 | 2 => some 137 | 3 => some 138 | 4 => some 139 | 5 => some 140 | 6 => some 141 | 7 => some 142 | 8 => some 143 | 9 => some 144 | 10 => some 145 | 11 => some 146 | 12 => some 147 | 13 => some 148 | 14 => some 149 | 15 => some 150 | 16 => some 151 | 17 => some 152 | 18 => some 153 | 19 => some 154 | 20 => some 155 | 21 => some 156 | 22 => some 157 | 23 => some 158 | 24 => some 159 | 25 => some 160 | 26 => some 161 | 27 => some 162 | 28 => some 163 | 29 => some 164 | 30 => some 165 | 31 => some 166 | 32 => some 167 | _ => none
theorem odD_inj : ∀ i, i < 33 → ∀ j, j < 33 → odD i = odD j → odD i ≠ none → i = j := by decide
theorem odD_lt : ∀ i, i < 33 → ∀ d, odD i = some d → d < 192 := by
  intro i hi d h
  have : ∀ i, i < 33 → (odD i).all (fun d => decide (d < 192)) = true := by decide
  have := this i hi
  rw [h] at this
  simpa using this
def odF (qn kk ycc b7 TN LN crk cpp : Nat) (XT YY : Addr) (ark app : Option Addr) (SS LS MX : Int) (i : Nat) (q : Value) (w : World) : Prop := match i with
  | 0 => q = .slice (some XT) qn ycc
  | 1 => q = .int .i64 (kk : Nat)
  | 2 => q = .pointer (some YY)
  | 3 => q = .pointer (some YY)
  | 4 => q = .slice ark TN crk
  | 5 => q = .int .i64 (TN : Nat)
  | 6 => q = .int .i64 (LN : Nat)
  | 7 => q = .int .i64 (TN : Nat)
  | 8 => q = .bool false
  | 9 => q = .bool false
  | 10 => q = .slice (some XT) qn ycc
  | 11 => q = .int .i64 (kk : Nat)
  | 12 => q = .pointer (some YY)
  | 13 => q = .pointer (some YY)
  | 14 => q = .slice ark TN crk
  | 15 => q = .int .i64 (LN : Nat)
  | 16 => q = .slice ark LN crk
  | 17 => q = .pointer (some ⟨b7, 0, none⟩)
  | 18 => q = .slice app LN cpp
  | 19 => q = .bool true
  | 20 => q = .bool false
  | 21 => q = .bool false
  | 22 => q = .bool false
  | 23 => q = .slice (some XT) qn ycc
  | 24 => q = .int .i64 (kk : Nat)
  | 25 => q = .pointer (some YY)
  | 26 => q = .pointer (some ⟨YY.block, YY.off + 1, none⟩)
  | 27 => q = .int .i64 SS
  | 28 => q = .pointer (some ⟨b7, 1, none⟩)
  | 29 => q = .int .i64 LS
  | 30 => q = .int .i64 MX
  | 31 => q = .bool false
  | 32 => q = .bool false
  | _ => True
theorem odF_below {qn kk ycc b7 TN LN crk cpp : Nat} {XT YY : Addr} {ark app : Option Addr} {SS LS MX : Int} {i : Nat} {q : Value} {w w' : World} (h : odF qn kk ycc b7 TN LN crk cpp XT YY ark app SS LS MX i q w) (hb : Below w.heap.size w w') : odF qn kk ycc b7 TN LN crk cpp XT YY ark app SS LS MX i q w' := by
  unfold odF at h ⊢
  split
  · exact h
  · exact h
  · exact h
  · exact h
  · exact h
  · exact h
  · exact h
  · exact h
  · exact h
  · exact h
  · exact h
  · exact h
  · exact h
  · exact h
  · exact h
  · exact h
  · exact h
  · exact h
  · exact h
  · exact h
  · exact h
  · exact h
  · exact h
  · exact h
  · exact h
  · exact h
  · exact h
  · exact h
  · exact h
  · exact h
  · exact h
  · exact h
  · exact h
  · trivial

set_option maxHeartbeats 8000000 in
theorem od_region {id : Nat} {ops : Array Oper} {Q : Exit → Act → World → Prop} {a0 : Act} {w0 : World} (qn kk ycc b7 TN LN crk cpp : Nat) (XT YY : Addr) (ark app : Option Addr) (SS LS MX : Int) (S : World → Prop) (hlow : lowB ops = true) (hsz : ops.size = 33)
    (o0 : OpIn ops 0 (some 135) (.move (.tmp 3)) none []) (o1 : OpIn ops 1 (some 136) (.move (.tmp 6)) none []) (o2 : OpIn ops 2 (some 137) (.indexAddr 27 (.tmp 135) (.tmp 136)) none [0, 1]) (o3 : OpIn ops 3 (some 138) (.fieldAddr 40 (.tmp 137) 0) none [2]) (o4 : OpIn ops 4 (some 139) (.load 29 (.tmp 138)) none [3]) (o5 : OpIn ops 5 (some 140) (.call { callee := .builtin .len, args := #[.tmp 139], argTypes := #[29] }) none [4]) (o6 : OpIn ops 6 (some 141) (.move (.tmp 8)) none []) (o7 : OpIn ops 7 (some 142) (.binOp .add 3 (.tmp 141) (.const (.int .i64 1)) 3) none [6]) (o8 : OpIn ops 8 (some 143) (.binOp .neq 3 (.tmp 140) (.tmp 142) 3) none [5, 7]) (o9 : OpIn ops 9 (some 144) (.move (.tmp 143)) none [8]) (o10 : OpIn ops 10 (some 145) (.move (.tmp 3)) (some (9, false)) [9]) (o11 : OpIn ops 11 (some 146) (.move (.tmp 6)) (some (9, false)) [9]) (o12 : OpIn ops 12 (some 147) (.indexAddr 27 (.tmp 145) (.tmp 146)) (some (9, false)) [9, 10, 11]) (o13 : OpIn ops 13 (some 148) (.fieldAddr 40 (.tmp 147) 0) (some (9, false)) [9, 12]) (o14 : OpIn ops 14 (some 149) (.load 29 (.tmp 148)) (some (9, false)) [9, 13]) (o15 : OpIn ops 15 (some 150) (.move (.tmp 8)) (some (9, false)) [9]) (o16 : OpIn ops 16 (some 151) (.slice 29 (.tmp 149) none (some (.tmp 150)) none) (some (9, false)) [9, 14, 15]) (o17 : OpIn ops 17 (some 152) (.fieldAddr 42 (.tmp 7) 0) (some (9, false)) [9]) (o18 : OpIn ops 18 (some 153) (.load 29 (.tmp 152)) (some (9, false)) [9, 17]) (o19 : OpIn ops 19 (some 154) (.call { callee := .value (.func 14), args := #[.tmp 151, .tmp 153], argTypes := #[29, 29] }) (some (9, false)) [9, 16, 18]) (o20 : OpIn ops 20 (some 155) (.unOp .not 4 (.tmp 154)) (some (9, false)) [9, 19]) (o21 : OpIn ops 21 (some 156) (.pick (.tmp 144) (.const (.bool true)) (.tmp 155)) none [9, 20]) (o22 : OpIn ops 22 (some 157) (.move (.tmp 156)) none [21]) (o23 : OpIn ops 23 (some 158) (.move (.tmp 3)) (some (22, false)) [22]) (o24 : OpIn ops 24 (some 159) (.move (.tmp 6)) (some (22, false)) [22]) (o25 : OpIn ops 25 (some 160) (.indexAddr 27 (.tmp 158) (.tmp 159)) (some (22, false)) [22, 23, 24]) (o26 : OpIn ops 26 (some 161) (.fieldAddr 40 (.tmp 160) 1) (some (22, false)) [22, 25]) (o27 : OpIn ops 27 (some 162) (.load 2 (.tmp 161)) (some (22, false)) [22, 26]) (o28 : OpIn ops 28 (some 163) (.fieldAddr 42 (.tmp 7) 1) (some (22, false)) [22]) (o29 : OpIn ops 29 (some 164) (.load 2 (.tmp 163)) (some (22, false)) [22, 28]) (o30 : OpIn ops 30 (some 165) (.call { callee := .builtin .max, args := #[.tmp 164, .const (.int .i64 (-2147483648))], argTypes := #[2, 2] }) (some (22, false)) [22, 29]) (o31 : OpIn ops 31 (some 166) (.binOp .gtr 2 (.tmp 162) (.tmp 165) 2) (some (22, false)) [22, 27, 30]) (o32 : OpIn ops 32 (some 167) (.pick (.tmp 157) (.const (.bool true)) (.tmp 166)) none [22, 31])
    (hS : S w0.drew)
    (x2 : ∀ w, (Instr.indexAt 27 (.slice (some XT) qn ycc) (.int .i64 (kk : Nat))).run Try.prog w = .ok (.pointer (some YY)) w)
    (x3 : ∀ w, (Instr.fieldAt 40 (.pointer (some YY)) 0).run Try.prog w = .ok (.pointer (some YY)) w)
    (x4 : ∀ w, S w → (Instr.loadAt 29 (.pointer (some YY))).run Try.prog w = .ok (.slice ark TN crk) w)
    (x7 : ∀ w, (binOp .add 3 (.int .i64 (LN : Nat)) (.int .i64 1)).run Try.prog w = .ok (.int .i64 (TN : Nat)) w)
    (x8 : ∀ w, (binOp .neq 3 (.int .i64 (TN : Nat)) (.int .i64 (TN : Nat))).run Try.prog w = .ok (.bool false) w)
    (x12 : ∀ w, (Instr.indexAt 27 (.slice (some XT) qn ycc) (.int .i64 (kk : Nat))).run Try.prog w = .ok (.pointer (some YY)) w)
    (x13 : ∀ w, (Instr.fieldAt 40 (.pointer (some YY)) 0).run Try.prog w = .ok (.pointer (some YY)) w)
    (x14 : ∀ w, S w → (Instr.loadAt 29 (.pointer (some YY))).run Try.prog w = .ok (.slice ark TN crk) w)
    (x16 : ∀ w, (Instr.sliceAt 29 (.slice ark TN crk) none (some (.int .i64 (LN : Nat))) none).run Try.prog w = .ok (.slice ark LN crk) w)
    (x17 : ∀ w, (Instr.fieldAt 42 (.pointer (some ⟨b7, 0, none⟩)) 0).run Try.prog w = .ok (.pointer (some ⟨b7, 0, none⟩)) w)
    (x18 : ∀ w, S w → (Instr.loadAt 29 (.pointer (some ⟨b7, 0, none⟩))).run Try.prog w = .ok (.slice app LN cpp) w)
    (x19 : ∀ w, S w → Calls Try.prog 14 #[.slice ark LN crk, .slice app LN cpp] w fun e w' => e = .returned (.bool true) ∧ Below w.heap.size w w' ∧ S w')
    (x25 : ∀ w, (Instr.indexAt 27 (.slice (some XT) qn ycc) (.int .i64 (kk : Nat))).run Try.prog w = .ok (.pointer (some YY)) w)
    (x26 : ∀ w, (Instr.fieldAt 40 (.pointer (some YY)) 1).run Try.prog w = .ok (.pointer (some ⟨YY.block, YY.off + 1, none⟩)) w)
    (x27 : ∀ w, S w → (Instr.loadAt 2 (.pointer (some ⟨YY.block, YY.off + 1, none⟩))).run Try.prog w = .ok (.int .i64 SS) w)
    (x28 : ∀ w, (Instr.fieldAt 42 (.pointer (some ⟨b7, 0, none⟩)) 1).run Try.prog w = .ok (.pointer (some ⟨b7, 1, none⟩)) w)
    (x29 : ∀ w, S w → (Instr.loadAt 2 (.pointer (some ⟨b7, 1, none⟩))).run Try.prog w = .ok (.int .i64 LS) w)
    (x30 : ∀ w ty, (Builtin.max_ #[2, 2] ty #[.int .i64 LS, .int .i64 (-2147483648)]).run Try.prog w = .ok (.int .i64 MX) w)
    (x31 : ∀ w, (binOp .gtr 2 (.int .i64 SS) (.int .i64 MX)).run Try.prog w = .ok (.bool false) w)
    (u3 : a0.tmps.getD 3 undef = .slice (some XT) qn ycc)
    (u6 : a0.tmps.getD 6 undef = .int .i64 (kk : Nat))
    (u7 : a0.tmps.getD 7 undef = .pointer (some ⟨b7, 0, none⟩))
    (u8 : a0.tmps.getD 8 undef = .int .i64 (LN : Nat))
    (hs : 192 ≤ a0.tmps.size)
    (fin : ∀ a w, a.tmps.size = a0.tmps.size → a.defers = a0.defers → (∀ s, (∀ i, i < 33 → odD i ≠ some s) → a.tmps.getD s undef = a0.tmps.getD s undef) → S w → (∀ i d, i < 33 → odD i = some d → odF qn kk ycc b7 TN LN crk cpp XT YY ark app SS LS MX i (a.tmps.getD d undef) w) → Q .normal a w) : (Code.region id ops true).wp Try.prog Q a0 w0 := by
  have r14 : ∀ args w, (callFunc 14 args).run Try.prog w = .ok (.enter 14 args) w := enters_of Try.func14 (by kernel_rfl) rfl
  refine wp_region_inv2 (by kernel_rfl) hlow (Inv 33 odD a0 (fun l a w => S w ∧ Kept2 33 odD a0 l a) (fun _ => odF qn kk ycc b7 TN LN crk cpp XT YY ark app SS LS MX)) (Inv.start ⟨hS, kept2_start _ _ _⟩) ?_ ?_
  · intro l i o a w ho hl hcl hdep hI
    have hi : i < 33 := by rw [← hsz]; exact (Array.getElem?_eq_some_iff.1 ho).1
    have ev : ∀ (s : Nat), a.eval (.tmp s) = a.tmps.getD s undef := fun _ => rfl
    have evf : ∀ f, a.eval (.func f) = .func (.func f) #[] #[] := fun _ => rfl
    have evc : ∀ c : Value, a.eval (.const c) = c := fun _ => rfl
    have inj : ∀ d, odD i = some d → ∀ j d', j < 33 → odD j = some d' → j ≠ i → d' ≠ d := fun d hd j d' hj hd' hne e => hne (odD_inj j hj i hi (by rw [hd', hd, e]) (by rw [hd']; simp))
    have kp : ∀ s, (∀ i, i < 33 → odD i ≠ some s) → a.tmps.getD s undef = a0.tmps.getD s undef := hI.kept
    have hw : S w := hI.world.1
    have k2 := hI.world.2
    have ex0 := hI.world.2
    have go : ∀ {d : Nat} {v : Value} {w' : World}, odD i = some d → Below w.heap.size w w' → S w' → odF qn kk ycc b7 TN LN crk cpp XT YY ark app SS LS MX i v w' → Inv 33 odD a0 (fun l a w => S w ∧ Kept2 33 odD a0 l a) (fun _ => odF qn kk ycc b7 TN LN crk cpp XT YY ark app SS LS MX) (fun j => l j || j == i) (a.put (some d) v) w' := by
      intro d v w' hD hb hS' hF
      exact hI.put hi hD (Nat.lt_of_lt_of_le (odD_lt i hi d hD) hs) (inj d hD) ⟨hS', k2.put hD (by rw [hI.size]; exact Nat.lt_of_lt_of_le (odD_lt i hi d hD) hs) hi⟩ hF (fun j u _ _ _ hf => odF_below hf hb)
    rcases (show i = 0 ∨ i = 1 ∨ i = 2 ∨ i = 3 ∨ i = 4 ∨ i = 5 ∨ i = 6 ∨ i = 7 ∨ i = 8 ∨ i = 9 ∨ i = 10 ∨ i = 11 ∨ i = 12 ∨ i = 13 ∨ i = 14 ∨ i = 15 ∨ i = 16 ∨ i = 17 ∨ i = 18 ∨ i = 19 ∨ i = 20 ∨ i = 21 ∨ i = 22 ∨ i = 23 ∨ i = 24 ∨ i = 25 ∨ i = 26 ∨ i = 27 ∨ i = 28 ∨ i = 29 ∨ i = 30 ∨ i = 31 ∨ i = 32 by omega) with rfl | rfl | rfl | rfl | rfl | rfl | rfl | rfl | rfl | rfl | rfl | rfl | rfl | rfl | rfl | rfl | rfl | rfl | rfl | rfl | rfl | rfl | rfl | rfl | rfl | rfl | rfl | rfl | rfl | rfl | rfl | rfl | rfl
    · obtain ⟨o', e1, e2, e3, e4, e5⟩ := o0
      obtain rfl := Option.some.inj (ho.symm.trans e1)
      have dp := dep_of' e5 hdep
      have U3 : a.tmps.getD 3 undef = .slice (some XT) qn ycc := (kp 3 (by decide)).trans u3
      exact wpOp_value (v := .slice (some XT) qn ycc) (w' := w) ho e4 (by simp [execOp, e3, ev, evc, U3]) (by rw [e2]; exact go rfl (Below.refl _ _) hw rfl)
    · obtain ⟨o', e1, e2, e3, e4, e5⟩ := o1
      obtain rfl := Option.some.inj (ho.symm.trans e1)
      have dp := dep_of' e5 hdep
      have U6 : a.tmps.getD 6 undef = .int .i64 (kk : Nat) := (kp 6 (by decide)).trans u6
      exact wpOp_value (v := .int .i64 (kk : Nat)) (w' := w) ho e4 (by simp [execOp, e3, ev, evc, U6]) (by rw [e2]; exact go rfl (Below.refl _ _) hw rfl)
    · obtain ⟨o', e1, e2, e3, e4, e5⟩ := o2
      obtain rfl := Option.some.inj (ho.symm.trans e1)
      have dp := dep_of' e5 hdep
      have V0 : a.tmps.getD 135 undef = .slice (some XT) qn ycc := hI.val 0 135 (by decide) rfl (dp 0 (by decide))
      have V1 : a.tmps.getD 136 undef = .int .i64 (kk : Nat) := hI.val 1 136 (by decide) rfl (dp 1 (by decide))
      exact wpOp_value (v := .pointer (some YY)) (w' := w) ho e4 (by simp [execOp, e3, ev, evc, V0, V1, x2 w]) (by rw [e2]; exact go rfl (Below.refl _ _) hw rfl)
    · obtain ⟨o', e1, e2, e3, e4, e5⟩ := o3
      obtain rfl := Option.some.inj (ho.symm.trans e1)
      have dp := dep_of' e5 hdep
      have V2 : a.tmps.getD 137 undef = .pointer (some YY) := hI.val 2 137 (by decide) rfl (dp 2 (by decide))
      exact wpOp_value (v := .pointer (some YY)) (w' := w) ho e4 (by simp [execOp, e3, ev, evc, V2, x3 w]) (by rw [e2]; exact go rfl (Below.refl _ _) hw rfl)
    · obtain ⟨o', e1, e2, e3, e4, e5⟩ := o4
      obtain rfl := Option.some.inj (ho.symm.trans e1)
      have dp := dep_of' e5 hdep
      have V3 : a.tmps.getD 138 undef = .pointer (some YY) := hI.val 3 138 (by decide) rfl (dp 3 (by decide))
      exact wpOp_value (v := .slice ark TN crk) (w' := w) ho e4 (by simp [execOp, e3, ev, evc, V3, x4 w hw]) (by rw [e2]; exact go rfl (Below.refl _ _) hw rfl)
    · obtain ⟨o', e1, e2, e3, e4, e5⟩ := o5
      obtain rfl := Option.some.inj (ho.symm.trans e1)
      have dp := dep_of' e5 hdep
      have V4 : a.tmps.getD 139 undef = .slice ark TN crk := hI.val 4 139 (by decide) rfl (dp 4 (by decide))
      exact wpOp_value (v := .int .i64 (TN : Nat)) (w' := w) ho e4 (by simp [execOp, e3, ev, evc, V4, builtin, resolve, invoke, goInt, Builtin.len_, run_underlying Try.underlying29]) (by rw [e2]; exact go rfl (Below.refl _ _) hw rfl)
    · obtain ⟨o', e1, e2, e3, e4, e5⟩ := o6
      obtain rfl := Option.some.inj (ho.symm.trans e1)
      have dp := dep_of' e5 hdep
      have U8 : a.tmps.getD 8 undef = .int .i64 (LN : Nat) := (kp 8 (by decide)).trans u8
      exact wpOp_value (v := .int .i64 (LN : Nat)) (w' := w) ho e4 (by simp [execOp, e3, ev, evc, U8]) (by rw [e2]; exact go rfl (Below.refl _ _) hw rfl)
    · obtain ⟨o', e1, e2, e3, e4, e5⟩ := o7
      obtain rfl := Option.some.inj (ho.symm.trans e1)
      have dp := dep_of' e5 hdep
      have V6 : a.tmps.getD 141 undef = .int .i64 (LN : Nat) := hI.val 6 141 (by decide) rfl (dp 6 (by decide))
      exact wpOp_value (v := .int .i64 (TN : Nat)) (w' := w) ho e4 (by simp [execOp, e3, ev, evc, V6, x7 w, eqGuard]) (by rw [e2]; exact go rfl (Below.refl _ _) hw rfl)
    · obtain ⟨o', e1, e2, e3, e4, e5⟩ := o8
      obtain rfl := Option.some.inj (ho.symm.trans e1)
      have dp := dep_of' e5 hdep
      have V5 : a.tmps.getD 140 undef = .int .i64 (TN : Nat) := hI.val 5 140 (by decide) rfl (dp 5 (by decide))
      have V7 : a.tmps.getD 142 undef = .int .i64 (TN : Nat) := hI.val 7 142 (by decide) rfl (dp 7 (by decide))
      exact wpOp_value (v := .bool false) (w' := w) ho e4 (by simp [execOp, e3, ev, evc, V5, V7, x8 w, eqGuard]) (by rw [e2]; exact go rfl (Below.refl _ _) hw rfl)
    · obtain ⟨o', e1, e2, e3, e4, e5⟩ := o9
      obtain rfl := Option.some.inj (ho.symm.trans e1)
      have dp := dep_of' e5 hdep
      have V8 : a.tmps.getD 143 undef = .bool false := hI.val 8 143 (by decide) rfl (dp 8 (by decide))
      exact wpOp_value (v := .bool false) (w' := w) ho e4 (by simp [execOp, e3, ev, evc, V8]) (by rw [e2]; exact go rfl (Below.refl _ _) hw rfl)
    · obtain ⟨o', e1, e2, e3, e4, e5⟩ := o10
      obtain rfl := Option.some.inj (ho.symm.trans e1)
      have dp := dep_of' e5 hdep
      have V9 : a.tmps.getD 144 undef = .bool false := hI.val 9 144 (by decide) rfl (dp 9 (by decide))
      have U3 : a.tmps.getD 3 undef = .slice (some XT) qn ycc := (kp 3 (by decide)).trans u3
      obtain ⟨og, g1, g2, -, -, -⟩ := o9
      exact wpOp_value_b (v := .slice (some XT) qn ycc) (w' := w) ho e4 g1 g2 (by rw [hI.size]; exact Nat.lt_of_lt_of_le (by decide) hs) V9 (by simp [execOp, e3, ev, evc, V9, U3]) (by rw [e2]; exact go rfl (Below.refl _ _) hw rfl)
    · obtain ⟨o', e1, e2, e3, e4, e5⟩ := o11
      obtain rfl := Option.some.inj (ho.symm.trans e1)
      have dp := dep_of' e5 hdep
      have V9 : a.tmps.getD 144 undef = .bool false := hI.val 9 144 (by decide) rfl (dp 9 (by decide))
      have U6 : a.tmps.getD 6 undef = .int .i64 (kk : Nat) := (kp 6 (by decide)).trans u6
      obtain ⟨og, g1, g2, -, -, -⟩ := o9
      exact wpOp_value_b (v := .int .i64 (kk : Nat)) (w' := w) ho e4 g1 g2 (by rw [hI.size]; exact Nat.lt_of_lt_of_le (by decide) hs) V9 (by simp [execOp, e3, ev, evc, V9, U6]) (by rw [e2]; exact go rfl (Below.refl _ _) hw rfl)
    · obtain ⟨o', e1, e2, e3, e4, e5⟩ := o12
      obtain rfl := Option.some.inj (ho.symm.trans e1)
      have dp := dep_of' e5 hdep
      have V9 : a.tmps.getD 144 undef = .bool false := hI.val 9 144 (by decide) rfl (dp 9 (by decide))
      have V10 : a.tmps.getD 145 undef = .slice (some XT) qn ycc := hI.val 10 145 (by decide) rfl (dp 10 (by decide))
      have V11 : a.tmps.getD 146 undef = .int .i64 (kk : Nat) := hI.val 11 146 (by decide) rfl (dp 11 (by decide))
      obtain ⟨og, g1, g2, -, -, -⟩ := o9
      exact wpOp_value_b (v := .pointer (some YY)) (w' := w) ho e4 g1 g2 (by rw [hI.size]; exact Nat.lt_of_lt_of_le (by decide) hs) V9 (by simp [execOp, e3, ev, evc, V9, V10, V11, x12 w]) (by rw [e2]; exact go rfl (Below.refl _ _) hw rfl)
    · obtain ⟨o', e1, e2, e3, e4, e5⟩ := o13
      obtain rfl := Option.some.inj (ho.symm.trans e1)
      have dp := dep_of' e5 hdep
      have V9 : a.tmps.getD 144 undef = .bool false := hI.val 9 144 (by decide) rfl (dp 9 (by decide))
      have V12 : a.tmps.getD 147 undef = .pointer (some YY) := hI.val 12 147 (by decide) rfl (dp 12 (by decide))
      obtain ⟨og, g1, g2, -, -, -⟩ := o9
      exact wpOp_value_b (v := .pointer (some YY)) (w' := w) ho e4 g1 g2 (by rw [hI.size]; exact Nat.lt_of_lt_of_le (by decide) hs) V9 (by simp [execOp, e3, ev, evc, V9, V12, x13 w]) (by rw [e2]; exact go rfl (Below.refl _ _) hw rfl)
    · obtain ⟨o', e1, e2, e3, e4, e5⟩ := o14
      obtain rfl := Option.some.inj (ho.symm.trans e1)
      have dp := dep_of' e5 hdep
      have V9 : a.tmps.getD 144 undef = .bool false := hI.val 9 144 (by decide) rfl (dp 9 (by decide))
      have V13 : a.tmps.getD 148 undef = .pointer (some YY) := hI.val 13 148 (by decide) rfl (dp 13 (by decide))
      obtain ⟨og, g1, g2, -, -, -⟩ := o9
      exact wpOp_value_b (v := .slice ark TN crk) (w' := w) ho e4 g1 g2 (by rw [hI.size]; exact Nat.lt_of_lt_of_le (by decide) hs) V9 (by simp [execOp, e3, ev, evc, V9, V13, x14 w hw]) (by rw [e2]; exact go rfl (Below.refl _ _) hw rfl)
    · obtain ⟨o', e1, e2, e3, e4, e5⟩ := o15
      obtain rfl := Option.some.inj (ho.symm.trans e1)
      have dp := dep_of' e5 hdep
      have V9 : a.tmps.getD 144 undef = .bool false := hI.val 9 144 (by decide) rfl (dp 9 (by decide))
      have U8 : a.tmps.getD 8 undef = .int .i64 (LN : Nat) := (kp 8 (by decide)).trans u8
      obtain ⟨og, g1, g2, -, -, -⟩ := o9
      exact wpOp_value_b (v := .int .i64 (LN : Nat)) (w' := w) ho e4 g1 g2 (by rw [hI.size]; exact Nat.lt_of_lt_of_le (by decide) hs) V9 (by simp [execOp, e3, ev, evc, V9, U8]) (by rw [e2]; exact go rfl (Below.refl _ _) hw rfl)
    · obtain ⟨o', e1, e2, e3, e4, e5⟩ := o16
      obtain rfl := Option.some.inj (ho.symm.trans e1)
      have dp := dep_of' e5 hdep
      have V9 : a.tmps.getD 144 undef = .bool false := hI.val 9 144 (by decide) rfl (dp 9 (by decide))
      have V14 : a.tmps.getD 149 undef = .slice ark TN crk := hI.val 14 149 (by decide) rfl (dp 14 (by decide))
      have V15 : a.tmps.getD 150 undef = .int .i64 (LN : Nat) := hI.val 15 150 (by decide) rfl (dp 15 (by decide))
      obtain ⟨og, g1, g2, -, -, -⟩ := o9
      exact wpOp_value_b (v := .slice ark LN crk) (w' := w) ho e4 g1 g2 (by rw [hI.size]; exact Nat.lt_of_lt_of_le (by decide) hs) V9 (by simp [execOp, e3, ev, evc, V9, V14, V15, x16 w]) (by rw [e2]; exact go rfl (Below.refl _ _) hw rfl)
    · obtain ⟨o', e1, e2, e3, e4, e5⟩ := o17
      obtain rfl := Option.some.inj (ho.symm.trans e1)
      have dp := dep_of' e5 hdep
      have V9 : a.tmps.getD 144 undef = .bool false := hI.val 9 144 (by decide) rfl (dp 9 (by decide))
      have U7 : a.tmps.getD 7 undef = .pointer (some ⟨b7, 0, none⟩) := (kp 7 (by decide)).trans u7
      obtain ⟨og, g1, g2, -, -, -⟩ := o9
      exact wpOp_value_b (v := .pointer (some ⟨b7, 0, none⟩)) (w' := w) ho e4 g1 g2 (by rw [hI.size]; exact Nat.lt_of_lt_of_le (by decide) hs) V9 (by simp [execOp, e3, ev, evc, V9, U7, x17 w]) (by rw [e2]; exact go rfl (Below.refl _ _) hw rfl)
    · obtain ⟨o', e1, e2, e3, e4, e5⟩ := o18
      obtain rfl := Option.some.inj (ho.symm.trans e1)
      have dp := dep_of' e5 hdep
      have V9 : a.tmps.getD 144 undef = .bool false := hI.val 9 144 (by decide) rfl (dp 9 (by decide))
      have V17 : a.tmps.getD 152 undef = .pointer (some ⟨b7, 0, none⟩) := hI.val 17 152 (by decide) rfl (dp 17 (by decide))
      obtain ⟨og, g1, g2, -, -, -⟩ := o9
      exact wpOp_value_b (v := .slice app LN cpp) (w' := w) ho e4 g1 g2 (by rw [hI.size]; exact Nat.lt_of_lt_of_le (by decide) hs) V9 (by simp [execOp, e3, ev, evc, V9, V17, x18 w hw]) (by rw [e2]; exact go rfl (Below.refl _ _) hw rfl)
    · obtain ⟨o', e1, e2, e3, e4, e5⟩ := o19
      obtain rfl := Option.some.inj (ho.symm.trans e1)
      have dp := dep_of' e5 hdep
      have V9 : a.tmps.getD 144 undef = .bool false := hI.val 9 144 (by decide) rfl (dp 9 (by decide))
      have V16 : a.tmps.getD 151 undef = .slice ark LN crk := hI.val 16 151 (by decide) rfl (dp 16 (by decide))
      have V18 : a.tmps.getD 153 undef = .slice app LN cpp := hI.val 18 153 (by decide) rfl (dp 18 (by decide))
      obtain ⟨og, g1, g2, -, -, -⟩ := o9
      refine wpOp_call_b (f := 14) (args := #[.slice ark LN crk, .slice app LN cpp]) ho e4 g1 g2 (by rw [hI.size]; exact Nat.lt_of_lt_of_le (by decide) hs) V9 (by simp [execOp, e3, resolve, invoke, Deferred.ofValue, r14, ev, evf, evc, V9, V16, V18]) ((x19 w hw).mono ?_)
      rintro e W' ⟨rfl, hb6, hs6⟩
      refine ⟨_, rfl, ?_⟩
      rw [e2]
      exact go rfl hb6 hs6 rfl
    · obtain ⟨o', e1, e2, e3, e4, e5⟩ := o20
      obtain rfl := Option.some.inj (ho.symm.trans e1)
      have dp := dep_of' e5 hdep
      have V9 : a.tmps.getD 144 undef = .bool false := hI.val 9 144 (by decide) rfl (dp 9 (by decide))
      have V19 : a.tmps.getD 154 undef = .bool true := hI.val 19 154 (by decide) rfl (dp 19 (by decide))
      obtain ⟨og, g1, g2, -, -, -⟩ := o9
      exact wpOp_value_b (v := .bool false) (w' := w) ho e4 g1 g2 (by rw [hI.size]; exact Nat.lt_of_lt_of_le (by decide) hs) V9 (by simp [execOp, e3, ev, evc, V9, V19, Op.unary]) (by rw [e2]; exact go rfl (Below.refl _ _) hw rfl)
    · obtain ⟨o', e1, e2, e3, e4, e5⟩ := o21
      obtain rfl := Option.some.inj (ho.symm.trans e1)
      have dp := dep_of' e5 hdep
      have V9 : a.tmps.getD 144 undef = .bool false := hI.val 9 144 (by decide) rfl (dp 9 (by decide))
      have V20 : a.tmps.getD 155 undef = .bool false := hI.val 20 155 (by decide) rfl (dp 20 (by decide))
      exact wpOp_value (v := .bool false) (w' := w) ho e4 (by simp [execOp, e3, ev, evc, V9, V20, asBool]) (by rw [e2]; exact go rfl (Below.refl _ _) hw rfl)
    · obtain ⟨o', e1, e2, e3, e4, e5⟩ := o22
      obtain rfl := Option.some.inj (ho.symm.trans e1)
      have dp := dep_of' e5 hdep
      have V21 : a.tmps.getD 156 undef = .bool false := hI.val 21 156 (by decide) rfl (dp 21 (by decide))
      exact wpOp_value (v := .bool false) (w' := w) ho e4 (by simp [execOp, e3, ev, evc, V21]) (by rw [e2]; exact go rfl (Below.refl _ _) hw rfl)
    · obtain ⟨o', e1, e2, e3, e4, e5⟩ := o23
      obtain rfl := Option.some.inj (ho.symm.trans e1)
      have dp := dep_of' e5 hdep
      have V22 : a.tmps.getD 157 undef = .bool false := hI.val 22 157 (by decide) rfl (dp 22 (by decide))
      have U3 : a.tmps.getD 3 undef = .slice (some XT) qn ycc := (kp 3 (by decide)).trans u3
      obtain ⟨og, g1, g2, -, -, -⟩ := o22
      exact wpOp_value_b (v := .slice (some XT) qn ycc) (w' := w) ho e4 g1 g2 (by rw [hI.size]; exact Nat.lt_of_lt_of_le (by decide) hs) V22 (by simp [execOp, e3, ev, evc, V22, U3]) (by rw [e2]; exact go rfl (Below.refl _ _) hw rfl)
    · obtain ⟨o', e1, e2, e3, e4, e5⟩ := o24
      obtain rfl := Option.some.inj (ho.symm.trans e1)
      have dp := dep_of' e5 hdep
      have V22 : a.tmps.getD 157 undef = .bool false := hI.val 22 157 (by decide) rfl (dp 22 (by decide))
      have U6 : a.tmps.getD 6 undef = .int .i64 (kk : Nat) := (kp 6 (by decide)).trans u6
      obtain ⟨og, g1, g2, -, -, -⟩ := o22
      exact wpOp_value_b (v := .int .i64 (kk : Nat)) (w' := w) ho e4 g1 g2 (by rw [hI.size]; exact Nat.lt_of_lt_of_le (by decide) hs) V22 (by simp [execOp, e3, ev, evc, V22, U6]) (by rw [e2]; exact go rfl (Below.refl _ _) hw rfl)
    · obtain ⟨o', e1, e2, e3, e4, e5⟩ := o25
      obtain rfl := Option.some.inj (ho.symm.trans e1)
      have dp := dep_of' e5 hdep
      have V22 : a.tmps.getD 157 undef = .bool false := hI.val 22 157 (by decide) rfl (dp 22 (by decide))
      have V23 : a.tmps.getD 158 undef = .slice (some XT) qn ycc := hI.val 23 158 (by decide) rfl (dp 23 (by decide))
      have V24 : a.tmps.getD 159 undef = .int .i64 (kk : Nat) := hI.val 24 159 (by decide) rfl (dp 24 (by decide))
      obtain ⟨og, g1, g2, -, -, -⟩ := o22
      exact wpOp_value_b (v := .pointer (some YY)) (w' := w) ho e4 g1 g2 (by rw [hI.size]; exact Nat.lt_of_lt_of_le (by decide) hs) V22 (by simp [execOp, e3, ev, evc, V22, V23, V24, x25 w]) (by rw [e2]; exact go rfl (Below.refl _ _) hw rfl)
    · obtain ⟨o', e1, e2, e3, e4, e5⟩ := o26
      obtain rfl := Option.some.inj (ho.symm.trans e1)
      have dp := dep_of' e5 hdep
      have V22 : a.tmps.getD 157 undef = .bool false := hI.val 22 157 (by decide) rfl (dp 22 (by decide))
      have V25 : a.tmps.getD 160 undef = .pointer (some YY) := hI.val 25 160 (by decide) rfl (dp 25 (by decide))
      obtain ⟨og, g1, g2, -, -, -⟩ := o22
      exact wpOp_value_b (v := .pointer (some ⟨YY.block, YY.off + 1, none⟩)) (w' := w) ho e4 g1 g2 (by rw [hI.size]; exact Nat.lt_of_lt_of_le (by decide) hs) V22 (by simp [execOp, e3, ev, evc, V22, V25, x26 w]) (by rw [e2]; exact go rfl (Below.refl _ _) hw rfl)
    · obtain ⟨o', e1, e2, e3, e4, e5⟩ := o27
      obtain rfl := Option.some.inj (ho.symm.trans e1)
      have dp := dep_of' e5 hdep
      have V22 : a.tmps.getD 157 undef = .bool false := hI.val 22 157 (by decide) rfl (dp 22 (by decide))
      have V26 : a.tmps.getD 161 undef = .pointer (some ⟨YY.block, YY.off + 1, none⟩) := hI.val 26 161 (by decide) rfl (dp 26 (by decide))
      obtain ⟨og, g1, g2, -, -, -⟩ := o22
      exact wpOp_value_b (v := .int .i64 SS) (w' := w) ho e4 g1 g2 (by rw [hI.size]; exact Nat.lt_of_lt_of_le (by decide) hs) V22 (by simp [execOp, e3, ev, evc, V22, V26, x27 w hw]) (by rw [e2]; exact go rfl (Below.refl _ _) hw rfl)
    · obtain ⟨o', e1, e2, e3, e4, e5⟩ := o28
      obtain rfl := Option.some.inj (ho.symm.trans e1)
      have dp := dep_of' e5 hdep
      have V22 : a.tmps.getD 157 undef = .bool false := hI.val 22 157 (by decide) rfl (dp 22 (by decide))
      have U7 : a.tmps.getD 7 undef = .pointer (some ⟨b7, 0, none⟩) := (kp 7 (by decide)).trans u7
      obtain ⟨og, g1, g2, -, -, -⟩ := o22
      exact wpOp_value_b (v := .pointer (some ⟨b7, 1, none⟩)) (w' := w) ho e4 g1 g2 (by rw [hI.size]; exact Nat.lt_of_lt_of_le (by decide) hs) V22 (by simp [execOp, e3, ev, evc, V22, U7, x28 w]) (by rw [e2]; exact go rfl (Below.refl _ _) hw rfl)
    · obtain ⟨o', e1, e2, e3, e4, e5⟩ := o29
      obtain rfl := Option.some.inj (ho.symm.trans e1)
      have dp := dep_of' e5 hdep
      have V22 : a.tmps.getD 157 undef = .bool false := hI.val 22 157 (by decide) rfl (dp 22 (by decide))
      have V28 : a.tmps.getD 163 undef = .pointer (some ⟨b7, 1, none⟩) := hI.val 28 163 (by decide) rfl (dp 28 (by decide))
      obtain ⟨og, g1, g2, -, -, -⟩ := o22
      exact wpOp_value_b (v := .int .i64 LS) (w' := w) ho e4 g1 g2 (by rw [hI.size]; exact Nat.lt_of_lt_of_le (by decide) hs) V22 (by simp [execOp, e3, ev, evc, V22, V28, x29 w hw]) (by rw [e2]; exact go rfl (Below.refl _ _) hw rfl)
    · obtain ⟨o', e1, e2, e3, e4, e5⟩ := o30
      obtain rfl := Option.some.inj (ho.symm.trans e1)
      have dp := dep_of' e5 hdep
      have V22 : a.tmps.getD 157 undef = .bool false := hI.val 22 157 (by decide) rfl (dp 22 (by decide))
      have V29 : a.tmps.getD 164 undef = .int .i64 LS := hI.val 29 164 (by decide) rfl (dp 29 (by decide))
      obtain ⟨og, g1, g2, -, -, -⟩ := o22
      exact wpOp_value_b (v := .int .i64 MX) (w' := w) ho e4 g1 g2 (by rw [hI.size]; exact Nat.lt_of_lt_of_le (by decide) hs) V22 (by simp only [execOp, e3, resolve, invoke, builtin, Sem.run_bind, Sem.run_pure, Result.andThen_ok, List.map_toArray, List.map_cons, List.map_nil, ev, evc, V22, V29, x30 w]) (by rw [e2]; exact go rfl (Below.refl _ _) hw rfl)
    · obtain ⟨o', e1, e2, e3, e4, e5⟩ := o31
      obtain rfl := Option.some.inj (ho.symm.trans e1)
      have dp := dep_of' e5 hdep
      have V22 : a.tmps.getD 157 undef = .bool false := hI.val 22 157 (by decide) rfl (dp 22 (by decide))
      have V27 : a.tmps.getD 162 undef = .int .i64 SS := hI.val 27 162 (by decide) rfl (dp 27 (by decide))
      have V30 : a.tmps.getD 165 undef = .int .i64 MX := hI.val 30 165 (by decide) rfl (dp 30 (by decide))
      obtain ⟨og, g1, g2, -, -, -⟩ := o22
      exact wpOp_value_b (v := .bool false) (w' := w) ho e4 g1 g2 (by rw [hI.size]; exact Nat.lt_of_lt_of_le (by decide) hs) V22 (by simp [execOp, e3, ev, evc, V22, V27, V30, x31 w, eqGuard]) (by rw [e2]; exact go rfl (Below.refl _ _) hw rfl)
    · obtain ⟨o', e1, e2, e3, e4, e5⟩ := o32
      obtain rfl := Option.some.inj (ho.symm.trans e1)
      have dp := dep_of' e5 hdep
      have V22 : a.tmps.getD 157 undef = .bool false := hI.val 22 157 (by decide) rfl (dp 22 (by decide))
      have V31 : a.tmps.getD 166 undef = .bool false := hI.val 31 166 (by decide) rfl (dp 31 (by decide))
      exact wpOp_value (v := .bool false) (w' := w) ho e4 (by simp [execOp, e3, ev, evc, V22, V31, asBool]) (by rw [e2]; exact go rfl (Below.refl _ _) hw rfl)
  · intro l a w hall hI
    have all : ∀ j, j < 33 → l j = true := fun j hj => hall j (by rw [hsz]; exact hj)
    exact fin a w hI.size hI.defers hI.kept hI.world.1 (fun i d hi hD => hI.val i d hi hD (all i hi))

def oeD (i : Nat) : Option Nat := match i with | 0 => some 168 | 1 => some 169 | 2 => some 170 | 3 => some 171 | 4 => some 172 | 5 => some 173 | 6 => some 174 | 7 => some 175 | 8 => some 176 | 9 => some 177 | 10 => some 178 | 11 => some 179 | 12 => some 180 | 13 => some 181 | 14 => some 182 | 15 => some 183 | 16 => some 184 | 17 => some 185 | 18 => some 186 | 19 => some 187 | 20 => some 188 | 21 => some 189 | 22 => some 190 | 23 => some 191 | _ => none
theorem oeD_inj : ∀ i, i < 24 → ∀ j, j < 24 → oeD i = oeD j → oeD i ≠ none → i = j := by decide
theorem oeD_lt : ∀ i, i < 24 → ∀ d, oeD i = some d → d < 192 := by
  intro i hi d h
  have : ∀ i, i < 24 → (oeD i).all (fun d => decide (d < 192)) = true := by decide
  have := this i hi
  rw [h] at this
  simpa using this
def oeF (bx qn kk ycc TN LN crk : Nat) (XT YY XK : Addr) (JJ St Ln : Int) (i : Nat) (q : Value) (w : World) : Prop := match i with
  | 0 => q = .slice (some XT) qn ycc
  | 1 => q = .int .i64 (kk : Nat)
  | 2 => q = .pointer (some YY)
  | 3 => q = .pointer (some ⟨YY.block, YY.off + 2, none⟩)
  | 4 => q = .bool true
  | 5 => q = .slice (some XT) qn ycc
  | 6 => q = .int .i64 (kk : Nat)
  | 7 => q = .pointer (some YY)
  | 8 => q = .pointer (some YY)
  | 9 => q = .slice (some XK) TN crk
  | 10 => q = .int .i64 (LN : Nat)
  | 11 => q = .pointer (some (XK.add LN))
  | 12 => q = .int .i64 JJ
  | 13 => q = .pointer (some ⟨bx, 4, none⟩)
  | 14 => q = .int .i64 St
  | 15 => q = .bool true
  | 16 => q = .bool true
  | 17 => q = undef
  | 18 => q = undef
  | 19 => q = undef
  | 20 => q = undef
  | 21 => q = undef
  | 22 => q = .bool true
  | 23 => q = .bool false
  | _ => True
theorem oeF_below {bx qn kk ycc TN LN crk : Nat} {XT YY XK : Addr} {JJ St Ln : Int} {i : Nat} {q : Value} {w w' : World} (h : oeF bx qn kk ycc TN LN crk XT YY XK JJ St Ln i q w) (hb : Below w.heap.size w w') : oeF bx qn kk ycc TN LN crk XT YY XK JJ St Ln i q w' := by
  unfold oeF at h ⊢
  split
  · exact h
  · exact h
  · exact h
  · exact h
  · exact h
  · exact h
  · exact h
  · exact h
  · exact h
  · exact h
  · exact h
  · exact h
  · exact h
  · exact h
  · exact h
  · exact h
  · exact h
  · exact h
  · exact h
  · exact h
  · exact h
  · exact h
  · exact h
  · exact h
  · trivial

set_option maxHeartbeats 8000000 in
theorem oe_region {id : Nat} {ops : Array Oper} {Q : Exit → Act → World → Prop} {a0 : Act} {w0 : World} (bx qn kk ycc TN LN crk : Nat) (XT YY XK : Addr) (JJ St Ln : Int) (S : World → Prop) (hlow : lowB ops = true) (hsz : ops.size = 24)
    (o0 : OpIn ops 0 (some 168) (.move (.tmp 3)) none []) (o1 : OpIn ops 1 (some 169) (.move (.tmp 6)) none []) (o2 : OpIn ops 2 (some 170) (.indexAddr 27 (.tmp 168) (.tmp 169)) none [0, 1]) (o3 : OpIn ops 3 (some 171) (.fieldAddr 40 (.tmp 170) 2) none [2]) (o4 : OpIn ops 4 (some 172) (.load 4 (.tmp 171)) none [3]) (o5 : OpIn ops 5 (some 173) (.move (.tmp 3)) none []) (o6 : OpIn ops 6 (some 174) (.move (.tmp 6)) none []) (o7 : OpIn ops 7 (some 175) (.indexAddr 27 (.tmp 173) (.tmp 174)) none [5, 6]) (o8 : OpIn ops 8 (some 176) (.fieldAddr 40 (.tmp 175) 0) none [7]) (o9 : OpIn ops 9 (some 177) (.load 29 (.tmp 176)) none [8]) (o10 : OpIn ops 10 (some 178) (.move (.tmp 8)) none []) (o11 : OpIn ops 11 (some 179) (.indexAddr 29 (.tmp 177) (.tmp 178)) none [9, 10]) (o12 : OpIn ops 12 (some 180) (.load 3 (.tmp 179)) none [11]) (o13 : OpIn ops 13 (some 181) (.fieldAddr 25 (.tmp 1) 4) none []) (o14 : OpIn ops 14 (some 182) (.load 3 (.tmp 181)) none [13]) (o15 : OpIn ops 15 (some 183) (.binOp .eql 3 (.tmp 180) (.tmp 182) 3) none [12, 14]) (o16 : OpIn ops 16 (some 184) (.move (.tmp 183)) none [15]) (o17 : OpIn ops 17 (some 185) (.move (.tmp 8)) (some (16, false)) [16]) (o18 : OpIn ops 18 (some 186) (.binOp .add 3 (.tmp 185) (.const (.int .i64 1)) 3) (some (16, false)) [16, 17]) (o19 : OpIn ops 19 (some 187) (.fieldAddr 25 (.tmp 1) 3) (some (16, false)) [16]) (o20 : OpIn ops 20 (some 188) (.load 3 (.tmp 187)) (some (16, false)) [16, 19]) (o21 : OpIn ops 21 (some 189) (.binOp .geq 3 (.tmp 186) (.tmp 188) 3) (some (16, false)) [16, 18, 20]) (o22 : OpIn ops 22 (some 190) (.pick (.tmp 184) (.const (.bool true)) (.tmp 189)) none [16, 21]) (o23 : OpIn ops 23 (some 191) (.binOp .neq 4 (.tmp 172) (.tmp 190) 4) none [4, 22])
    (hS : S w0.drew)
    (x2 : ∀ w, (Instr.indexAt 27 (.slice (some XT) qn ycc) (.int .i64 (kk : Nat))).run Try.prog w = .ok (.pointer (some YY)) w)
    (x3 : ∀ w, (Instr.fieldAt 40 (.pointer (some YY)) 2).run Try.prog w = .ok (.pointer (some ⟨YY.block, YY.off + 2, none⟩)) w)
    (x4 : ∀ w, S w → (Instr.loadAt 4 (.pointer (some ⟨YY.block, YY.off + 2, none⟩))).run Try.prog w = .ok (.bool true) w)
    (x7 : ∀ w, (Instr.indexAt 27 (.slice (some XT) qn ycc) (.int .i64 (kk : Nat))).run Try.prog w = .ok (.pointer (some YY)) w)
    (x8 : ∀ w, (Instr.fieldAt 40 (.pointer (some YY)) 0).run Try.prog w = .ok (.pointer (some YY)) w)
    (x9 : ∀ w, S w → (Instr.loadAt 29 (.pointer (some YY))).run Try.prog w = .ok (.slice (some XK) TN crk) w)
    (x11 : ∀ w, (Instr.indexAt 29 (.slice (some XK) TN crk) (.int .i64 (LN : Nat))).run Try.prog w = .ok (.pointer (some (XK.add LN))) w)
    (x12 : ∀ w, S w → (Instr.loadAt 3 (.pointer (some (XK.add LN)))).run Try.prog w = .ok (.int .i64 JJ) w)
    (x13 : ∀ w, (Instr.fieldAt 25 (.pointer (some ⟨bx, 0, none⟩)) 4).run Try.prog w = .ok (.pointer (some ⟨bx, 4, none⟩)) w)
    (x14 : ∀ w, S w → (Instr.loadAt 3 (.pointer (some ⟨bx, 4, none⟩))).run Try.prog w = .ok (.int .i64 St) w)
    (x15 : ∀ w, (binOp .eql 3 (.int .i64 JJ) (.int .i64 St)).run Try.prog w = .ok (.bool true) w)
    (x23 : ∀ w, (binOp .neq 4 (.bool true) (.bool true)).run Try.prog w = .ok (.bool false) w)
    (u1 : a0.tmps.getD 1 undef = .pointer (some ⟨bx, 0, none⟩))
    (u3 : a0.tmps.getD 3 undef = .slice (some XT) qn ycc)
    (u6 : a0.tmps.getD 6 undef = .int .i64 (kk : Nat))
    (u8 : a0.tmps.getD 8 undef = .int .i64 (LN : Nat))
    (hs : 192 ≤ a0.tmps.size)
    (fin : ∀ a w, a.tmps.size = a0.tmps.size → a.defers = a0.defers → (∀ s, (∀ i, i < 24 → oeD i ≠ some s) → a.tmps.getD s undef = a0.tmps.getD s undef) → S w → (∀ i d, i < 24 → oeD i = some d → oeF bx qn kk ycc TN LN crk XT YY XK JJ St Ln i (a.tmps.getD d undef) w) → Q .normal a w) : (Code.region id ops true).wp Try.prog Q a0 w0 := by
  refine wp_region_inv2 (by kernel_rfl) hlow (Inv 24 oeD a0 (fun l a w => S w ∧ Kept2 24 oeD a0 l a) (fun _ => oeF bx qn kk ycc TN LN crk XT YY XK JJ St Ln)) (Inv.start ⟨hS, kept2_start _ _ _⟩) ?_ ?_
  · intro l i o a w ho hl hcl hdep hI
    have hi : i < 24 := by rw [← hsz]; exact (Array.getElem?_eq_some_iff.1 ho).1
    have ev : ∀ (s : Nat), a.eval (.tmp s) = a.tmps.getD s undef := fun _ => rfl
    have evf : ∀ f, a.eval (.func f) = .func (.func f) #[] #[] := fun _ => rfl
    have evc : ∀ c : Value, a.eval (.const c) = c := fun _ => rfl
    have inj : ∀ d, oeD i = some d → ∀ j d', j < 24 → oeD j = some d' → j ≠ i → d' ≠ d := fun d hd j d' hj hd' hne e => hne (oeD_inj j hj i hi (by rw [hd', hd, e]) (by rw [hd']; simp))
    have kp : ∀ s, (∀ i, i < 24 → oeD i ≠ some s) → a.tmps.getD s undef = a0.tmps.getD s undef := hI.kept
    have hw : S w := hI.world.1
    have k2 := hI.world.2
    have ex0 := hI.world.2
    have go : ∀ {d : Nat} {v : Value} {w' : World}, oeD i = some d → Below w.heap.size w w' → S w' → oeF bx qn kk ycc TN LN crk XT YY XK JJ St Ln i v w' → Inv 24 oeD a0 (fun l a w => S w ∧ Kept2 24 oeD a0 l a) (fun _ => oeF bx qn kk ycc TN LN crk XT YY XK JJ St Ln) (fun j => l j || j == i) (a.put (some d) v) w' := by
      intro d v w' hD hb hS' hF
      exact hI.put hi hD (Nat.lt_of_lt_of_le (oeD_lt i hi d hD) hs) (inj d hD) ⟨hS', k2.put hD (by rw [hI.size]; exact Nat.lt_of_lt_of_le (oeD_lt i hi d hD) hs) hi⟩ hF (fun j u _ _ _ hf => oeF_below hf hb)
    rcases (show i = 0 ∨ i = 1 ∨ i = 2 ∨ i = 3 ∨ i = 4 ∨ i = 5 ∨ i = 6 ∨ i = 7 ∨ i = 8 ∨ i = 9 ∨ i = 10 ∨ i = 11 ∨ i = 12 ∨ i = 13 ∨ i = 14 ∨ i = 15 ∨ i = 16 ∨ i = 17 ∨ i = 18 ∨ i = 19 ∨ i = 20 ∨ i = 21 ∨ i = 22 ∨ i = 23 by omega) with rfl | rfl | rfl | rfl | rfl | rfl | rfl | rfl | rfl | rfl | rfl | rfl | rfl | rfl | rfl | rfl | rfl | rfl | rfl | rfl | rfl | rfl | rfl | rfl
    · obtain ⟨o', e1, e2, e3, e4, e5⟩ := o0
      obtain rfl := Option.some.inj (ho.symm.trans e1)
      have dp := dep_of' e5 hdep
      have U3 : a.tmps.getD 3 undef = .slice (some XT) qn ycc := (kp 3 (by decide)).trans u3
      exact wpOp_value (v := .slice (some XT) qn ycc) (w' := w) ho e4 (by simp [execOp, e3, ev, evc, U3]) (by rw [e2]; exact go rfl (Below.refl _ _) hw rfl)
    · obtain ⟨o', e1, e2, e3, e4, e5⟩ := o1
      obtain rfl := Option.some.inj (ho.symm.trans e1)
      have dp := dep_of' e5 hdep
      have U6 : a.tmps.getD 6 undef = .int .i64 (kk : Nat) := (kp 6 (by decide)).trans u6
      exact wpOp_value (v := .int .i64 (kk : Nat)) (w' := w) ho e4 (by simp [execOp, e3, ev, evc, U6]) (by rw [e2]; exact go rfl (Below.refl _ _) hw rfl)
    · obtain ⟨o', e1, e2, e3, e4, e5⟩ := o2
      obtain rfl := Option.some.inj (ho.symm.trans e1)
      have dp := dep_of' e5 hdep
      have V0 : a.tmps.getD 168 undef = .slice (some XT) qn ycc := hI.val 0 168 (by decide) rfl (dp 0 (by decide))
      have V1 : a.tmps.getD 169 undef = .int .i64 (kk : Nat) := hI.val 1 169 (by decide) rfl (dp 1 (by decide))
      exact wpOp_value (v := .pointer (some YY)) (w' := w) ho e4 (by simp [execOp, e3, ev, evc, V0, V1, x2 w]) (by rw [e2]; exact go rfl (Below.refl _ _) hw rfl)
    · obtain ⟨o', e1, e2, e3, e4, e5⟩ := o3
      obtain rfl := Option.some.inj (ho.symm.trans e1)
      have dp := dep_of' e5 hdep
      have V2 : a.tmps.getD 170 undef = .pointer (some YY) := hI.val 2 170 (by decide) rfl (dp 2 (by decide))
      exact wpOp_value (v := .pointer (some ⟨YY.block, YY.off + 2, none⟩)) (w' := w) ho e4 (by simp [execOp, e3, ev, evc, V2, x3 w]) (by rw [e2]; exact go rfl (Below.refl _ _) hw rfl)
    · obtain ⟨o', e1, e2, e3, e4, e5⟩ := o4
      obtain rfl := Option.some.inj (ho.symm.trans e1)
      have dp := dep_of' e5 hdep
      have V3 : a.tmps.getD 171 undef = .pointer (some ⟨YY.block, YY.off + 2, none⟩) := hI.val 3 171 (by decide) rfl (dp 3 (by decide))
      exact wpOp_value (v := .bool true) (w' := w) ho e4 (by simp [execOp, e3, ev, evc, V3, x4 w hw]) (by rw [e2]; exact go rfl (Below.refl _ _) hw rfl)
    · obtain ⟨o', e1, e2, e3, e4, e5⟩ := o5
      obtain rfl := Option.some.inj (ho.symm.trans e1)
      have dp := dep_of' e5 hdep
      have U3 : a.tmps.getD 3 undef = .slice (some XT) qn ycc := (kp 3 (by decide)).trans u3
      exact wpOp_value (v := .slice (some XT) qn ycc) (w' := w) ho e4 (by simp [execOp, e3, ev, evc, U3]) (by rw [e2]; exact go rfl (Below.refl _ _) hw rfl)
    · obtain ⟨o', e1, e2, e3, e4, e5⟩ := o6
      obtain rfl := Option.some.inj (ho.symm.trans e1)
      have dp := dep_of' e5 hdep
      have U6 : a.tmps.getD 6 undef = .int .i64 (kk : Nat) := (kp 6 (by decide)).trans u6
      exact wpOp_value (v := .int .i64 (kk : Nat)) (w' := w) ho e4 (by simp [execOp, e3, ev, evc, U6]) (by rw [e2]; exact go rfl (Below.refl _ _) hw rfl)
    · obtain ⟨o', e1, e2, e3, e4, e5⟩ := o7
      obtain rfl := Option.some.inj (ho.symm.trans e1)
      have dp := dep_of' e5 hdep
      have V5 : a.tmps.getD 173 undef = .slice (some XT) qn ycc := hI.val 5 173 (by decide) rfl (dp 5 (by decide))
      have V6 : a.tmps.getD 174 undef = .int .i64 (kk : Nat) := hI.val 6 174 (by decide) rfl (dp 6 (by decide))
      exact wpOp_value (v := .pointer (some YY)) (w' := w) ho e4 (by simp [execOp, e3, ev, evc, V5, V6, x7 w]) (by rw [e2]; exact go rfl (Below.refl _ _) hw rfl)
    · obtain ⟨o', e1, e2, e3, e4, e5⟩ := o8
      obtain rfl := Option.some.inj (ho.symm.trans e1)
      have dp := dep_of' e5 hdep
      have V7 : a.tmps.getD 175 undef = .pointer (some YY) := hI.val 7 175 (by decide) rfl (dp 7 (by decide))
      exact wpOp_value (v := .pointer (some YY)) (w' := w) ho e4 (by simp [execOp, e3, ev, evc, V7, x8 w]) (by rw [e2]; exact go rfl (Below.refl _ _) hw rfl)
    · obtain ⟨o', e1, e2, e3, e4, e5⟩ := o9
      obtain rfl := Option.some.inj (ho.symm.trans e1)
      have dp := dep_of' e5 hdep
      have V8 : a.tmps.getD 176 undef = .pointer (some YY) := hI.val 8 176 (by decide) rfl (dp 8 (by decide))
      exact wpOp_value (v := .slice (some XK) TN crk) (w' := w) ho e4 (by simp [execOp, e3, ev, evc, V8, x9 w hw]) (by rw [e2]; exact go rfl (Below.refl _ _) hw rfl)
    · obtain ⟨o', e1, e2, e3, e4, e5⟩ := o10
      obtain rfl := Option.some.inj (ho.symm.trans e1)
      have dp := dep_of' e5 hdep
      have U8 : a.tmps.getD 8 undef = .int .i64 (LN : Nat) := (kp 8 (by decide)).trans u8
      exact wpOp_value (v := .int .i64 (LN : Nat)) (w' := w) ho e4 (by simp [execOp, e3, ev, evc, U8]) (by rw [e2]; exact go rfl (Below.refl _ _) hw rfl)
    · obtain ⟨o', e1, e2, e3, e4, e5⟩ := o11
      obtain rfl := Option.some.inj (ho.symm.trans e1)
      have dp := dep_of' e5 hdep
      have V9 : a.tmps.getD 177 undef = .slice (some XK) TN crk := hI.val 9 177 (by decide) rfl (dp 9 (by decide))
      have V10 : a.tmps.getD 178 undef = .int .i64 (LN : Nat) := hI.val 10 178 (by decide) rfl (dp 10 (by decide))
      exact wpOp_value (v := .pointer (some (XK.add LN))) (w' := w) ho e4 (by simp [execOp, e3, ev, evc, V9, V10, x11 w]) (by rw [e2]; exact go rfl (Below.refl _ _) hw rfl)
    · obtain ⟨o', e1, e2, e3, e4, e5⟩ := o12
      obtain rfl := Option.some.inj (ho.symm.trans e1)
      have dp := dep_of' e5 hdep
      have V11 : a.tmps.getD 179 undef = .pointer (some (XK.add LN)) := hI.val 11 179 (by decide) rfl (dp 11 (by decide))
      exact wpOp_value (v := .int .i64 JJ) (w' := w) ho e4 (by simp [execOp, e3, ev, evc, V11, x12 w hw]) (by rw [e2]; exact go rfl (Below.refl _ _) hw rfl)
    · obtain ⟨o', e1, e2, e3, e4, e5⟩ := o13
      obtain rfl := Option.some.inj (ho.symm.trans e1)
      have dp := dep_of' e5 hdep
      have U1 : a.tmps.getD 1 undef = .pointer (some ⟨bx, 0, none⟩) := (kp 1 (by decide)).trans u1
      exact wpOp_value (v := .pointer (some ⟨bx, 4, none⟩)) (w' := w) ho e4 (by simp [execOp, e3, ev, evc, U1, x13 w]) (by rw [e2]; exact go rfl (Below.refl _ _) hw rfl)
    · obtain ⟨o', e1, e2, e3, e4, e5⟩ := o14
      obtain rfl := Option.some.inj (ho.symm.trans e1)
      have dp := dep_of' e5 hdep
      have V13 : a.tmps.getD 181 undef = .pointer (some ⟨bx, 4, none⟩) := hI.val 13 181 (by decide) rfl (dp 13 (by decide))
      exact wpOp_value (v := .int .i64 St) (w' := w) ho e4 (by simp [execOp, e3, ev, evc, V13, x14 w hw]) (by rw [e2]; exact go rfl (Below.refl _ _) hw rfl)
    · obtain ⟨o', e1, e2, e3, e4, e5⟩ := o15
      obtain rfl := Option.some.inj (ho.symm.trans e1)
      have dp := dep_of' e5 hdep
      have V12 : a.tmps.getD 180 undef = .int .i64 JJ := hI.val 12 180 (by decide) rfl (dp 12 (by decide))
      have V14 : a.tmps.getD 182 undef = .int .i64 St := hI.val 14 182 (by decide) rfl (dp 14 (by decide))
      exact wpOp_value (v := .bool true) (w' := w) ho e4 (by simp [execOp, e3, ev, evc, V12, V14, x15 w, eqGuard]) (by rw [e2]; exact go rfl (Below.refl _ _) hw rfl)
    · obtain ⟨o', e1, e2, e3, e4, e5⟩ := o16
      obtain rfl := Option.some.inj (ho.symm.trans e1)
      have dp := dep_of' e5 hdep
      have V15 : a.tmps.getD 183 undef = .bool true := hI.val 15 183 (by decide) rfl (dp 15 (by decide))
      exact wpOp_value (v := .bool true) (w' := w) ho e4 (by simp [execOp, e3, ev, evc, V15]) (by rw [e2]; exact go rfl (Below.refl _ _) hw rfl)
    · obtain ⟨o', e1, e2, e3, e4, e5⟩ := o17
      obtain rfl := Option.some.inj (ho.symm.trans e1)
      have dp := dep_of' e5 hdep
      have V16 : a.tmps.getD 184 undef = .bool true := hI.val 16 184 (by decide) rfl (dp 16 (by decide))
      have U8 : a.tmps.getD 8 undef = .int .i64 (LN : Nat) := (kp 8 (by decide)).trans u8
      obtain ⟨og, g1, g2, -, -, -⟩ := o16
      exact wpOp_unw ho e4 g1 g2 (by rw [hI.size]; exact Nat.lt_of_lt_of_le (by decide) hs) (by rw [V16]; rfl) (by rw [e2]; exact go rfl (Below.refl _ _) hw rfl)
    · obtain ⟨o', e1, e2, e3, e4, e5⟩ := o18
      obtain rfl := Option.some.inj (ho.symm.trans e1)
      have dp := dep_of' e5 hdep
      have V16 : a.tmps.getD 184 undef = .bool true := hI.val 16 184 (by decide) rfl (dp 16 (by decide))
      have V17 : a.tmps.getD 185 undef = undef := hI.val 17 185 (by decide) rfl (dp 17 (by decide))
      obtain ⟨og, g1, g2, -, -, -⟩ := o16
      exact wpOp_unw ho e4 g1 g2 (by rw [hI.size]; exact Nat.lt_of_lt_of_le (by decide) hs) (by rw [V16]; rfl) (by rw [e2]; exact go rfl (Below.refl _ _) hw rfl)
    · obtain ⟨o', e1, e2, e3, e4, e5⟩ := o19
      obtain rfl := Option.some.inj (ho.symm.trans e1)
      have dp := dep_of' e5 hdep
      have V16 : a.tmps.getD 184 undef = .bool true := hI.val 16 184 (by decide) rfl (dp 16 (by decide))
      have U1 : a.tmps.getD 1 undef = .pointer (some ⟨bx, 0, none⟩) := (kp 1 (by decide)).trans u1
      obtain ⟨og, g1, g2, -, -, -⟩ := o16
      exact wpOp_unw ho e4 g1 g2 (by rw [hI.size]; exact Nat.lt_of_lt_of_le (by decide) hs) (by rw [V16]; rfl) (by rw [e2]; exact go rfl (Below.refl _ _) hw rfl)
    · obtain ⟨o', e1, e2, e3, e4, e5⟩ := o20
      obtain rfl := Option.some.inj (ho.symm.trans e1)
      have dp := dep_of' e5 hdep
      have V16 : a.tmps.getD 184 undef = .bool true := hI.val 16 184 (by decide) rfl (dp 16 (by decide))
      have V19 : a.tmps.getD 187 undef = undef := hI.val 19 187 (by decide) rfl (dp 19 (by decide))
      obtain ⟨og, g1, g2, -, -, -⟩ := o16
      exact wpOp_unw ho e4 g1 g2 (by rw [hI.size]; exact Nat.lt_of_lt_of_le (by decide) hs) (by rw [V16]; rfl) (by rw [e2]; exact go rfl (Below.refl _ _) hw rfl)
    · obtain ⟨o', e1, e2, e3, e4, e5⟩ := o21
      obtain rfl := Option.some.inj (ho.symm.trans e1)
      have dp := dep_of' e5 hdep
      have V16 : a.tmps.getD 184 undef = .bool true := hI.val 16 184 (by decide) rfl (dp 16 (by decide))
      have V18 : a.tmps.getD 186 undef = undef := hI.val 18 186 (by decide) rfl (dp 18 (by decide))
      have V20 : a.tmps.getD 188 undef = undef := hI.val 20 188 (by decide) rfl (dp 20 (by decide))
      obtain ⟨og, g1, g2, -, -, -⟩ := o16
      exact wpOp_unw ho e4 g1 g2 (by rw [hI.size]; exact Nat.lt_of_lt_of_le (by decide) hs) (by rw [V16]; rfl) (by rw [e2]; exact go rfl (Below.refl _ _) hw rfl)
    · obtain ⟨o', e1, e2, e3, e4, e5⟩ := o22
      obtain rfl := Option.some.inj (ho.symm.trans e1)
      have dp := dep_of' e5 hdep
      have V16 : a.tmps.getD 184 undef = .bool true := hI.val 16 184 (by decide) rfl (dp 16 (by decide))
      have V21 : a.tmps.getD 189 undef = undef := hI.val 21 189 (by decide) rfl (dp 21 (by decide))
      exact wpOp_value (v := .bool true) (w' := w) ho e4 (by simp [execOp, e3, ev, evc, V16, V21, asBool]) (by rw [e2]; exact go rfl (Below.refl _ _) hw rfl)
    · obtain ⟨o', e1, e2, e3, e4, e5⟩ := o23
      obtain rfl := Option.some.inj (ho.symm.trans e1)
      have dp := dep_of' e5 hdep
      have V4 : a.tmps.getD 172 undef = .bool true := hI.val 4 172 (by decide) rfl (dp 4 (by decide))
      have V22 : a.tmps.getD 190 undef = .bool true := hI.val 22 190 (by decide) rfl (dp 22 (by decide))
      exact wpOp_value (v := .bool false) (w' := w) ho e4 (by simp [execOp, e3, ev, evc, V4, V22, x23 w, eqGuard]) (by rw [e2]; exact go rfl (Below.refl _ _) hw rfl)
  · intro l a w hall hI
    have all : ∀ j, j < 24 → l j = true := fun j hj => hall j (by rw [hsz]; exact hj)
    exact fin a w hI.size hI.defers hI.kept hI.world.1 (fun i d hi hD => hI.val i d hi hD (all i hi))

def ofD (i : Nat) : Option Nat := match i with | 0 => some 168 | 1 => some 169 | 2 => some 170 | 3 => some 171 | 4 => some 172 | 5 => some 173 | 6 => some 174 | 7 => some 175 | 8 => some 176 | 9 => some 177 | 10 => some 178 | 11 => some 179 | 12 => some 180 | 13 => some 181 | 14 => some 182 | 15 => some 183 | 16 => some 184 | 17 => some 185 | 18 => some 186 | 19 => some 187 | 20 => some 188 | 21 => some 189 | 22 => some 190 | 23 => some 191 | _ => none
theorem ofD_inj : ∀ i, i < 24 → ∀ j, j < 24 → ofD i = ofD j → ofD i ≠ none → i = j := by decide
theorem ofD_lt : ∀ i, i < 24 → ∀ d, ofD i = some d → d < 192 := by
  intro i hi d h
  have : ∀ i, i < 24 → (ofD i).all (fun d => decide (d < 192)) = true := by decide
  have := this i hi
  rw [h] at this
  simpa using this
def ofF (bx qn kk ycc TN LN crk : Nat) (XT YY XK : Addr) (JJ St Ln : Int) (FF : Bool) (i : Nat) (q : Value) (w : World) : Prop := match i with
  | 0 => q = .slice (some XT) qn ycc
  | 1 => q = .int .i64 (kk : Nat)
  | 2 => q = .pointer (some YY)
  | 3 => q = .pointer (some ⟨YY.block, YY.off + 2, none⟩)
  | 4 => q = .bool FF
  | 5 => q = .slice (some XT) qn ycc
  | 6 => q = .int .i64 (kk : Nat)
  | 7 => q = .pointer (some YY)
  | 8 => q = .pointer (some YY)
  | 9 => q = .slice (some XK) TN crk
  | 10 => q = .int .i64 (LN : Nat)
  | 11 => q = .pointer (some (XK.add LN))
  | 12 => q = .int .i64 JJ
  | 13 => q = .pointer (some ⟨bx, 4, none⟩)
  | 14 => q = .int .i64 St
  | 15 => q = .bool false
  | 16 => q = .bool false
  | 17 => q = .int .i64 (LN : Nat)
  | 18 => q = .int .i64 (TN : Nat)
  | 19 => q = .pointer (some ⟨bx, 3, none⟩)
  | 20 => q = .int .i64 Ln
  | 21 => q = .bool FF
  | 22 => q = .bool FF
  | 23 => q = .bool false
  | _ => True
theorem ofF_below {bx qn kk ycc TN LN crk : Nat} {XT YY XK : Addr} {JJ St Ln : Int} {FF : Bool} {i : Nat} {q : Value} {w w' : World} (h : ofF bx qn kk ycc TN LN crk XT YY XK JJ St Ln FF i q w) (hb : Below w.heap.size w w') : ofF bx qn kk ycc TN LN crk XT YY XK JJ St Ln FF i q w' := by
  unfold ofF at h ⊢
  split
  · exact h
  · exact h
  · exact h
  · exact h
  · exact h
  · exact h
  · exact h
  · exact h
  · exact h
  · exact h
  · exact h
  · exact h
  · exact h
  · exact h
  · exact h
  · exact h
  · exact h
  · exact h
  · exact h
  · exact h
  · exact h
  · exact h
  · exact h
  · exact h
  · trivial

set_option maxHeartbeats 8000000 in
theorem of_region {id : Nat} {ops : Array Oper} {Q : Exit → Act → World → Prop} {a0 : Act} {w0 : World} (bx qn kk ycc TN LN crk : Nat) (XT YY XK : Addr) (JJ St Ln : Int) (FF : Bool) (S : World → Prop) (hlow : lowB ops = true) (hsz : ops.size = 24)
    (o0 : OpIn ops 0 (some 168) (.move (.tmp 3)) none []) (o1 : OpIn ops 1 (some 169) (.move (.tmp 6)) none []) (o2 : OpIn ops 2 (some 170) (.indexAddr 27 (.tmp 168) (.tmp 169)) none [0, 1]) (o3 : OpIn ops 3 (some 171) (.fieldAddr 40 (.tmp 170) 2) none [2]) (o4 : OpIn ops 4 (some 172) (.load 4 (.tmp 171)) none [3]) (o5 : OpIn ops 5 (some 173) (.move (.tmp 3)) none []) (o6 : OpIn ops 6 (some 174) (.move (.tmp 6)) none []) (o7 : OpIn ops 7 (some 175) (.indexAddr 27 (.tmp 173) (.tmp 174)) none [5, 6]) (o8 : OpIn ops 8 (some 176) (.fieldAddr 40 (.tmp 175) 0) none [7]) (o9 : OpIn ops 9 (some 177) (.load 29 (.tmp 176)) none [8]) (o10 : OpIn ops 10 (some 178) (.move (.tmp 8)) none []) (o11 : OpIn ops 11 (some 179) (.indexAddr 29 (.tmp 177) (.tmp 178)) none [9, 10]) (o12 : OpIn ops 12 (some 180) (.load 3 (.tmp 179)) none [11]) (o13 : OpIn ops 13 (some 181) (.fieldAddr 25 (.tmp 1) 4) none []) (o14 : OpIn ops 14 (some 182) (.load 3 (.tmp 181)) none [13]) (o15 : OpIn ops 15 (some 183) (.binOp .eql 3 (.tmp 180) (.tmp 182) 3) none [12, 14]) (o16 : OpIn ops 16 (some 184) (.move (.tmp 183)) none [15]) (o17 : OpIn ops 17 (some 185) (.move (.tmp 8)) (some (16, false)) [16]) (o18 : OpIn ops 18 (some 186) (.binOp .add 3 (.tmp 185) (.const (.int .i64 1)) 3) (some (16, false)) [16, 17]) (o19 : OpIn ops 19 (some 187) (.fieldAddr 25 (.tmp 1) 3) (some (16, false)) [16]) (o20 : OpIn ops 20 (some 188) (.load 3 (.tmp 187)) (some (16, false)) [16, 19]) (o21 : OpIn ops 21 (some 189) (.binOp .geq 3 (.tmp 186) (.tmp 188) 3) (some (16, false)) [16, 18, 20]) (o22 : OpIn ops 22 (some 190) (.pick (.tmp 184) (.const (.bool true)) (.tmp 189)) none [16, 21]) (o23 : OpIn ops 23 (some 191) (.binOp .neq 4 (.tmp 172) (.tmp 190) 4) none [4, 22])
    (hS : S w0.drew)
    (x2 : ∀ w, (Instr.indexAt 27 (.slice (some XT) qn ycc) (.int .i64 (kk : Nat))).run Try.prog w = .ok (.pointer (some YY)) w)
    (x3 : ∀ w, (Instr.fieldAt 40 (.pointer (some YY)) 2).run Try.prog w = .ok (.pointer (some ⟨YY.block, YY.off + 2, none⟩)) w)
    (x4 : ∀ w, S w → (Instr.loadAt 4 (.pointer (some ⟨YY.block, YY.off + 2, none⟩))).run Try.prog w = .ok (.bool FF) w)
    (x7 : ∀ w, (Instr.indexAt 27 (.slice (some XT) qn ycc) (.int .i64 (kk : Nat))).run Try.prog w = .ok (.pointer (some YY)) w)
    (x8 : ∀ w, (Instr.fieldAt 40 (.pointer (some YY)) 0).run Try.prog w = .ok (.pointer (some YY)) w)
    (x9 : ∀ w, S w → (Instr.loadAt 29 (.pointer (some YY))).run Try.prog w = .ok (.slice (some XK) TN crk) w)
    (x11 : ∀ w, (Instr.indexAt 29 (.slice (some XK) TN crk) (.int .i64 (LN : Nat))).run Try.prog w = .ok (.pointer (some (XK.add LN))) w)
    (x12 : ∀ w, S w → (Instr.loadAt 3 (.pointer (some (XK.add LN)))).run Try.prog w = .ok (.int .i64 JJ) w)
    (x13 : ∀ w, (Instr.fieldAt 25 (.pointer (some ⟨bx, 0, none⟩)) 4).run Try.prog w = .ok (.pointer (some ⟨bx, 4, none⟩)) w)
    (x14 : ∀ w, S w → (Instr.loadAt 3 (.pointer (some ⟨bx, 4, none⟩))).run Try.prog w = .ok (.int .i64 St) w)
    (x15 : ∀ w, (binOp .eql 3 (.int .i64 JJ) (.int .i64 St)).run Try.prog w = .ok (.bool false) w)
    (x18 : ∀ w, (binOp .add 3 (.int .i64 (LN : Nat)) (.int .i64 1)).run Try.prog w = .ok (.int .i64 (TN : Nat)) w)
    (x19 : ∀ w, (Instr.fieldAt 25 (.pointer (some ⟨bx, 0, none⟩)) 3).run Try.prog w = .ok (.pointer (some ⟨bx, 3, none⟩)) w)
    (x20 : ∀ w, S w → (Instr.loadAt 3 (.pointer (some ⟨bx, 3, none⟩))).run Try.prog w = .ok (.int .i64 Ln) w)
    (x21 : ∀ w, (binOp .geq 3 (.int .i64 (TN : Nat)) (.int .i64 Ln)).run Try.prog w = .ok (.bool FF) w)
    (x23 : ∀ w, (binOp .neq 4 (.bool FF) (.bool FF)).run Try.prog w = .ok (.bool false) w)
    (u1 : a0.tmps.getD 1 undef = .pointer (some ⟨bx, 0, none⟩))
    (u3 : a0.tmps.getD 3 undef = .slice (some XT) qn ycc)
    (u6 : a0.tmps.getD 6 undef = .int .i64 (kk : Nat))
    (u8 : a0.tmps.getD 8 undef = .int .i64 (LN : Nat))
    (hs : 192 ≤ a0.tmps.size)
    (fin : ∀ a w, a.tmps.size = a0.tmps.size → a.defers = a0.defers → (∀ s, (∀ i, i < 24 → ofD i ≠ some s) → a.tmps.getD s undef = a0.tmps.getD s undef) → S w → (∀ i d, i < 24 → ofD i = some d → ofF bx qn kk ycc TN LN crk XT YY XK JJ St Ln FF i (a.tmps.getD d undef) w) → Q .normal a w) : (Code.region id ops true).wp Try.prog Q a0 w0 := by
  refine wp_region_inv2 (by kernel_rfl) hlow (Inv 24 ofD a0 (fun l a w => S w ∧ Kept2 24 ofD a0 l a) (fun _ => ofF bx qn kk ycc TN LN crk XT YY XK JJ St Ln FF)) (Inv.start ⟨hS, kept2_start _ _ _⟩) ?_ ?_
  · intro l i o a w ho hl hcl hdep hI
    have hi : i < 24 := by rw [← hsz]; exact (Array.getElem?_eq_some_iff.1 ho).1
    have ev : ∀ (s : Nat), a.eval (.tmp s) = a.tmps.getD s undef := fun _ => rfl
    have evf : ∀ f, a.eval (.func f) = .func (.func f) #[] #[] := fun _ => rfl
    have evc : ∀ c : Value, a.eval (.const c) = c := fun _ => rfl
    have inj : ∀ d, ofD i = some d → ∀ j d', j < 24 → ofD j = some d' → j ≠ i → d' ≠ d := fun d hd j d' hj hd' hne e => hne (ofD_inj j hj i hi (by rw [hd', hd, e]) (by rw [hd']; simp))
    have kp : ∀ s, (∀ i, i < 24 → ofD i ≠ some s) → a.tmps.getD s undef = a0.tmps.getD s undef := hI.kept
    have hw : S w := hI.world.1
    have k2 := hI.world.2
    have ex0 := hI.world.2
    have go : ∀ {d : Nat} {v : Value} {w' : World}, ofD i = some d → Below w.heap.size w w' → S w' → ofF bx qn kk ycc TN LN crk XT YY XK JJ St Ln FF i v w' → Inv 24 ofD a0 (fun l a w => S w ∧ Kept2 24 ofD a0 l a) (fun _ => ofF bx qn kk ycc TN LN crk XT YY XK JJ St Ln FF) (fun j => l j || j == i) (a.put (some d) v) w' := by
      intro d v w' hD hb hS' hF
      exact hI.put hi hD (Nat.lt_of_lt_of_le (ofD_lt i hi d hD) hs) (inj d hD) ⟨hS', k2.put hD (by rw [hI.size]; exact Nat.lt_of_lt_of_le (ofD_lt i hi d hD) hs) hi⟩ hF (fun j u _ _ _ hf => ofF_below hf hb)
    rcases (show i = 0 ∨ i = 1 ∨ i = 2 ∨ i = 3 ∨ i = 4 ∨ i = 5 ∨ i = 6 ∨ i = 7 ∨ i = 8 ∨ i = 9 ∨ i = 10 ∨ i = 11 ∨ i = 12 ∨ i = 13 ∨ i = 14 ∨ i = 15 ∨ i = 16 ∨ i = 17 ∨ i = 18 ∨ i = 19 ∨ i = 20 ∨ i = 21 ∨ i = 22 ∨ i = 23 by omega) with rfl | rfl | rfl | rfl | rfl | rfl | rfl | rfl | rfl | rfl | rfl | rfl | rfl | rfl | rfl | rfl | rfl | rfl | rfl | rfl | rfl | rfl | rfl | rfl
    · obtain ⟨o', e1, e2, e3, e4, e5⟩ := o0
      obtain rfl := Option.some.inj (ho.symm.trans e1)
      have dp := dep_of' e5 hdep
      have U3 : a.tmps.getD 3 undef = .slice (some XT) qn ycc := (kp 3 (by decide)).trans u3
      exact wpOp_value (v := .slice (some XT) qn ycc) (w' := w) ho e4 (by simp [execOp, e3, ev, evc, U3]) (by rw [e2]; exact go rfl (Below.refl _ _) hw rfl)
    · obtain ⟨o', e1, e2, e3, e4, e5⟩ := o1
      obtain rfl := Option.some.inj (ho.symm.trans e1)
      have dp := dep_of' e5 hdep
      have U6 : a.tmps.getD 6 undef = .int .i64 (kk : Nat) := (kp 6 (by decide)).trans u6
      exact wpOp_value (v := .int .i64 (kk : Nat)) (w' := w) ho e4 (by simp [execOp, e3, ev, evc, U6]) (by rw [e2]; exact go rfl (Below.refl _ _) hw rfl)
    · obtain ⟨o', e1, e2, e3, e4, e5⟩ := o2
      obtain rfl := Option.some.inj (ho.symm.trans e1)
      have dp := dep_of' e5 hdep
      have V0 : a.tmps.getD 168 undef = .slice (some XT) qn ycc := hI.val 0 168 (by decide) rfl (dp 0 (by decide))
      have V1 : a.tmps.getD 169 undef = .int .i64 (kk : Nat) := hI.val 1 169 (by decide) rfl (dp 1 (by decide))
      exact wpOp_value (v := .pointer (some YY)) (w' := w) ho e4 (by simp [execOp, e3, ev, evc, V0, V1, x2 w]) (by rw [e2]; exact go rfl (Below.refl _ _) hw rfl)
    · obtain ⟨o', e1, e2, e3, e4, e5⟩ := o3
      obtain rfl := Option.some.inj (ho.symm.trans e1)
      have dp := dep_of' e5 hdep
      have V2 : a.tmps.getD 170 undef = .pointer (some YY) := hI.val 2 170 (by decide) rfl (dp 2 (by decide))
      exact wpOp_value (v := .pointer (some ⟨YY.block, YY.off + 2, none⟩)) (w' := w) ho e4 (by simp [execOp, e3, ev, evc, V2, x3 w]) (by rw [e2]; exact go rfl (Below.refl _ _) hw rfl)
    · obtain ⟨o', e1, e2, e3, e4, e5⟩ := o4
      obtain rfl := Option.some.inj (ho.symm.trans e1)
      have dp := dep_of' e5 hdep
      have V3 : a.tmps.getD 171 undef = .pointer (some ⟨YY.block, YY.off + 2, none⟩) := hI.val 3 171 (by decide) rfl (dp 3 (by decide))
      exact wpOp_value (v := .bool FF) (w' := w) ho e4 (by simp [execOp, e3, ev, evc, V3, x4 w hw]) (by rw [e2]; exact go rfl (Below.refl _ _) hw rfl)
    · obtain ⟨o', e1, e2, e3, e4, e5⟩ := o5
      obtain rfl := Option.some.inj (ho.symm.trans e1)
      have dp := dep_of' e5 hdep
      have U3 : a.tmps.getD 3 undef = .slice (some XT) qn ycc := (kp 3 (by decide)).trans u3
      exact wpOp_value (v := .slice (some XT) qn ycc) (w' := w) ho e4 (by simp [execOp, e3, ev, evc, U3]) (by rw [e2]; exact go rfl (Below.refl _ _) hw rfl)
    · obtain ⟨o', e1, e2, e3, e4, e5⟩ := o6
      obtain rfl := Option.some.inj (ho.symm.trans e1)
      have dp := dep_of' e5 hdep
      have U6 : a.tmps.getD 6 undef = .int .i64 (kk : Nat) := (kp 6 (by decide)).trans u6
      exact wpOp_value (v := .int .i64 (kk : Nat)) (w' := w) ho e4 (by simp [execOp, e3, ev, evc, U6]) (by rw [e2]; exact go rfl (Below.refl _ _) hw rfl)
    · obtain ⟨o', e1, e2, e3, e4, e5⟩ := o7
      obtain rfl := Option.some.inj (ho.symm.trans e1)
      have dp := dep_of' e5 hdep
      have V5 : a.tmps.getD 173 undef = .slice (some XT) qn ycc := hI.val 5 173 (by decide) rfl (dp 5 (by decide))
      have V6 : a.tmps.getD 174 undef = .int .i64 (kk : Nat) := hI.val 6 174 (by decide) rfl (dp 6 (by decide))
      exact wpOp_value (v := .pointer (some YY)) (w' := w) ho e4 (by simp [execOp, e3, ev, evc, V5, V6, x7 w]) (by rw [e2]; exact go rfl (Below.refl _ _) hw rfl)
    · obtain ⟨o', e1, e2, e3, e4, e5⟩ := o8
      obtain rfl := Option.some.inj (ho.symm.trans e1)
      have dp := dep_of' e5 hdep
      have V7 : a.tmps.getD 175 undef = .pointer (some YY) := hI.val 7 175 (by decide) rfl (dp 7 (by decide))
      exact wpOp_value (v := .pointer (some YY)) (w' := w) ho e4 (by simp [execOp, e3, ev, evc, V7, x8 w]) (by rw [e2]; exact go rfl (Below.refl _ _) hw rfl)
    · obtain ⟨o', e1, e2, e3, e4, e5⟩ := o9
      obtain rfl := Option.some.inj (ho.symm.trans e1)
      have dp := dep_of' e5 hdep
      have V8 : a.tmps.getD 176 undef = .pointer (some YY) := hI.val 8 176 (by decide) rfl (dp 8 (by decide))
      exact wpOp_value (v := .slice (some XK) TN crk) (w' := w) ho e4 (by simp [execOp, e3, ev, evc, V8, x9 w hw]) (by rw [e2]; exact go rfl (Below.refl _ _) hw rfl)
    · obtain ⟨o', e1, e2, e3, e4, e5⟩ := o10
      obtain rfl := Option.some.inj (ho.symm.trans e1)
      have dp := dep_of' e5 hdep
      have U8 : a.tmps.getD 8 undef = .int .i64 (LN : Nat) := (kp 8 (by decide)).trans u8
      exact wpOp_value (v := .int .i64 (LN : Nat)) (w' := w) ho e4 (by simp [execOp, e3, ev, evc, U8]) (by rw [e2]; exact go rfl (Below.refl _ _) hw rfl)
    · obtain ⟨o', e1, e2, e3, e4, e5⟩ := o11
      obtain rfl := Option.some.inj (ho.symm.trans e1)
      have dp := dep_of' e5 hdep
      have V9 : a.tmps.getD 177 undef = .slice (some XK) TN crk := hI.val 9 177 (by decide) rfl (dp 9 (by decide))
      have V10 : a.tmps.getD 178 undef = .int .i64 (LN : Nat) := hI.val 10 178 (by decide) rfl (dp 10 (by decide))
      exact wpOp_value (v := .pointer (some (XK.add LN))) (w' := w) ho e4 (by simp [execOp, e3, ev, evc, V9, V10, x11 w]) (by rw [e2]; exact go rfl (Below.refl _ _) hw rfl)
    · obtain ⟨o', e1, e2, e3, e4, e5⟩ := o12
      obtain rfl := Option.some.inj (ho.symm.trans e1)
      have dp := dep_of' e5 hdep
      have V11 : a.tmps.getD 179 undef = .pointer (some (XK.add LN)) := hI.val 11 179 (by decide) rfl (dp 11 (by decide))
      exact wpOp_value (v := .int .i64 JJ) (w' := w) ho e4 (by simp [execOp, e3, ev, evc, V11, x12 w hw]) (by rw [e2]; exact go rfl (Below.refl _ _) hw rfl)
    · obtain ⟨o', e1, e2, e3, e4, e5⟩ := o13
      obtain rfl := Option.some.inj (ho.symm.trans e1)
      have dp := dep_of' e5 hdep
      have U1 : a.tmps.getD 1 undef = .pointer (some ⟨bx, 0, none⟩) := (kp 1 (by decide)).trans u1
      exact wpOp_value (v := .pointer (some ⟨bx, 4, none⟩)) (w' := w) ho e4 (by simp [execOp, e3, ev, evc, U1, x13 w]) (by rw [e2]; exact go rfl (Below.refl _ _) hw rfl)
    · obtain ⟨o', e1, e2, e3, e4, e5⟩ := o14
      obtain rfl := Option.some.inj (ho.symm.trans e1)
      have dp := dep_of' e5 hdep
      have V13 : a.tmps.getD 181 undef = .pointer (some ⟨bx, 4, none⟩) := hI.val 13 181 (by decide) rfl (dp 13 (by decide))
      exact wpOp_value (v := .int .i64 St) (w' := w) ho e4 (by simp [execOp, e3, ev, evc, V13, x14 w hw]) (by rw [e2]; exact go rfl (Below.refl _ _) hw rfl)
    · obtain ⟨o', e1, e2, e3, e4, e5⟩ := o15
      obtain rfl := Option.some.inj (ho.symm.trans e1)
      have dp := dep_of' e5 hdep
      have V12 : a.tmps.getD 180 undef = .int .i64 JJ := hI.val 12 180 (by decide) rfl (dp 12 (by decide))
      have V14 : a.tmps.getD 182 undef = .int .i64 St := hI.val 14 182 (by decide) rfl (dp 14 (by decide))
      exact wpOp_value (v := .bool false) (w' := w) ho e4 (by simp [execOp, e3, ev, evc, V12, V14, x15 w, eqGuard]) (by rw [e2]; exact go rfl (Below.refl _ _) hw rfl)
    · obtain ⟨o', e1, e2, e3, e4, e5⟩ := o16
      obtain rfl := Option.some.inj (ho.symm.trans e1)
      have dp := dep_of' e5 hdep
      have V15 : a.tmps.getD 183 undef = .bool false := hI.val 15 183 (by decide) rfl (dp 15 (by decide))
      exact wpOp_value (v := .bool false) (w' := w) ho e4 (by simp [execOp, e3, ev, evc, V15]) (by rw [e2]; exact go rfl (Below.refl _ _) hw rfl)
    · obtain ⟨o', e1, e2, e3, e4, e5⟩ := o17
      obtain rfl := Option.some.inj (ho.symm.trans e1)
      have dp := dep_of' e5 hdep
      have V16 : a.tmps.getD 184 undef = .bool false := hI.val 16 184 (by decide) rfl (dp 16 (by decide))
      have U8 : a.tmps.getD 8 undef = .int .i64 (LN : Nat) := (kp 8 (by decide)).trans u8
      obtain ⟨og, g1, g2, -, -, -⟩ := o16
      exact wpOp_value_b (v := .int .i64 (LN : Nat)) (w' := w) ho e4 g1 g2 (by rw [hI.size]; exact Nat.lt_of_lt_of_le (by decide) hs) V16 (by simp [execOp, e3, ev, evc, V16, U8]) (by rw [e2]; exact go rfl (Below.refl _ _) hw rfl)
    · obtain ⟨o', e1, e2, e3, e4, e5⟩ := o18
      obtain rfl := Option.some.inj (ho.symm.trans e1)
      have dp := dep_of' e5 hdep
      have V16 : a.tmps.getD 184 undef = .bool false := hI.val 16 184 (by decide) rfl (dp 16 (by decide))
      have V17 : a.tmps.getD 185 undef = .int .i64 (LN : Nat) := hI.val 17 185 (by decide) rfl (dp 17 (by decide))
      obtain ⟨og, g1, g2, -, -, -⟩ := o16
      exact wpOp_value_b (v := .int .i64 (TN : Nat)) (w' := w) ho e4 g1 g2 (by rw [hI.size]; exact Nat.lt_of_lt_of_le (by decide) hs) V16 (by simp [execOp, e3, ev, evc, V16, V17, x18 w, eqGuard]) (by rw [e2]; exact go rfl (Below.refl _ _) hw rfl)
    · obtain ⟨o', e1, e2, e3, e4, e5⟩ := o19
      obtain rfl := Option.some.inj (ho.symm.trans e1)
      have dp := dep_of' e5 hdep
      have V16 : a.tmps.getD 184 undef = .bool false := hI.val 16 184 (by decide) rfl (dp 16 (by decide))
      have U1 : a.tmps.getD 1 undef = .pointer (some ⟨bx, 0, none⟩) := (kp 1 (by decide)).trans u1
      obtain ⟨og, g1, g2, -, -, -⟩ := o16
      exact wpOp_value_b (v := .pointer (some ⟨bx, 3, none⟩)) (w' := w) ho e4 g1 g2 (by rw [hI.size]; exact Nat.lt_of_lt_of_le (by decide) hs) V16 (by simp [execOp, e3, ev, evc, V16, U1, x19 w]) (by rw [e2]; exact go rfl (Below.refl _ _) hw rfl)
    · obtain ⟨o', e1, e2, e3, e4, e5⟩ := o20
      obtain rfl := Option.some.inj (ho.symm.trans e1)
      have dp := dep_of' e5 hdep
      have V16 : a.tmps.getD 184 undef = .bool false := hI.val 16 184 (by decide) rfl (dp 16 (by decide))
      have V19 : a.tmps.getD 187 undef = .pointer (some ⟨bx, 3, none⟩) := hI.val 19 187 (by decide) rfl (dp 19 (by decide))
      obtain ⟨og, g1, g2, -, -, -⟩ := o16
      exact wpOp_value_b (v := .int .i64 Ln) (w' := w) ho e4 g1 g2 (by rw [hI.size]; exact Nat.lt_of_lt_of_le (by decide) hs) V16 (by simp [execOp, e3, ev, evc, V16, V19, x20 w hw]) (by rw [e2]; exact go rfl (Below.refl _ _) hw rfl)
    · obtain ⟨o', e1, e2, e3, e4, e5⟩ := o21
      obtain rfl := Option.some.inj (ho.symm.trans e1)
      have dp := dep_of' e5 hdep
      have V16 : a.tmps.getD 184 undef = .bool false := hI.val 16 184 (by decide) rfl (dp 16 (by decide))
      have V18 : a.tmps.getD 186 undef = .int .i64 (TN : Nat) := hI.val 18 186 (by decide) rfl (dp 18 (by decide))
      have V20 : a.tmps.getD 188 undef = .int .i64 Ln := hI.val 20 188 (by decide) rfl (dp 20 (by decide))
      obtain ⟨og, g1, g2, -, -, -⟩ := o16
      exact wpOp_value_b (v := .bool FF) (w' := w) ho e4 g1 g2 (by rw [hI.size]; exact Nat.lt_of_lt_of_le (by decide) hs) V16 (by simp [execOp, e3, ev, evc, V16, V18, V20, x21 w, eqGuard]) (by rw [e2]; exact go rfl (Below.refl _ _) hw rfl)
    · obtain ⟨o', e1, e2, e3, e4, e5⟩ := o22
      obtain rfl := Option.some.inj (ho.symm.trans e1)
      have dp := dep_of' e5 hdep
      have V16 : a.tmps.getD 184 undef = .bool false := hI.val 16 184 (by decide) rfl (dp 16 (by decide))
      have V21 : a.tmps.getD 189 undef = .bool FF := hI.val 21 189 (by decide) rfl (dp 21 (by decide))
      exact wpOp_value (v := .bool FF) (w' := w) ho e4 (by simp [execOp, e3, ev, evc, V16, V21, asBool]) (by rw [e2]; exact go rfl (Below.refl _ _) hw rfl)
    · obtain ⟨o', e1, e2, e3, e4, e5⟩ := o23
      obtain rfl := Option.some.inj (ho.symm.trans e1)
      have dp := dep_of' e5 hdep
      have V4 : a.tmps.getD 172 undef = .bool FF := hI.val 4 172 (by decide) rfl (dp 4 (by decide))
      have V22 : a.tmps.getD 190 undef = .bool FF := hI.val 22 190 (by decide) rfl (dp 22 (by decide))
      exact wpOp_value (v := .bool false) (w' := w) ho e4 (by simp [execOp, e3, ev, evc, V4, V22, x23 w, eqGuard]) (by rw [e2]; exact go rfl (Below.refl _ _) hw rfl)
  · intro l a w hall hI
    have all : ∀ j, j < 24 → l j = true := fun j hj => hall j (by rw [hsz]; exact hj)
    exact fin a w hI.size hI.defers hI.kept hI.world.1 (fun i d hi hD => hI.val i d hi hD (all i hi))

end Go.Proofs.Yteeljnibglnflaa
