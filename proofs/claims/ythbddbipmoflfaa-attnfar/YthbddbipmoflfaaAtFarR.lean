/- The region in which keys and values are gathered. -/
import Derived.Test.YthbddbipmoflfaaRows
import Derived.Test.YthbddbipmoflfaaView
import Derived.Test.YthbddbipmoflfaaOwn
import Derived.Test.YthbddbipmoflfaaWhere
import Derived.Test.YthbddbipmoflfaaMean
import Derived.Test.YthbddbipmoflfaaGrids
import Derived.Test.YthbddbipmoflfaaInvIn
import Derived.Test.YthbddbipmoflfaaAtReg
import Derived.Test.YthbddbipmoflfaaAtTwo
import Derived.WalkKit
import Derived.ProofKit
import Derived.OpenShut
import Derived.Below
import Derived.WalkLawsBesides
import Derived.Deep.QuietTactic
import Derived.BigQuiet
import Derived.Orders
import Derived.Shelf.Abstract
namespace Go.Proofs.Ythbddbipmoflfaa
open Go.ChangeShapes Go.WideShapes Go.ChangeAt Go.RowKit
set_option linter.unusedVariables false
set_option linter.unusedSimpArgs false

def pfD (i : Nat) : Option Nat := match i with | 0 => some 89 | 1 => some 90 | 2 => some 91 | 3 => some 92 | 4 => some 93 | 5 => some 94 | 6 => some 95 | 7 => some 96 | 8 => some 97 | 9 => some 98 | 10 => some 99 | 11 => some 11 | 12 => some 12 | _ => none
theorem pfD_inj : ∀ i, i < 13 → ∀ j, j < 13 → pfD i = pfD j → pfD i ≠ none → i = j := by decide
theorem pfD_lt : ∀ i, i < 13 → ∀ d, pfD i = some d → d < 161 := by
  intro i hi d h
  have : ∀ i, i < 13 → (pfD i).all (fun d => decide (d < 161)) = true := by decide
  have := this i hi
  rw [h] at this
  simpa using this
def pfF (x : Addr) (n c k sl sc vl vc : Nat) (sa va : Option Addr) (u1 u2 : Value) (i : Nat) (q : Value) (w : World) : Prop := match i with
  | 0 => q = u1
  | 1 => q = .slice sa sl sc
  | 2 => True
  | 3 => True
  | 4 => q = u2
  | 5 => q = .slice (some x) n c
  | 6 => q = .int .i64 k
  | 7 => q = .pointer (some (x.add k))
  | 8 => q = .slice va vl vc
  | 9 => True
  | 10 => True
  | 11 => True
  | 12 => True
  | _ => True

set_option maxHeartbeats 8000000 in
theorem pf_region {id : Nat} {ops : Array Oper} {Q : Exit → Act → World → Prop} {a0 : Act} {w0 : World} (x : Addr) (n c k sl sc vl vc : Nat) (sa va : Option Addr) (u1 u2 : Value) (B : Nat) (W0 : World) (n1 n2 : Nat) (xs1 xs2 : List Value) (hlow : lowB ops = true) (hsz : ops.size = 13)
    (o0 : OpIn ops 0 (some 89) (.move (.tmp 11)) none []) (o1 : OpIn ops 1 (some 90) (.move (.tmp 14)) none []) (o2 : OpIn ops 2 (some 91) (.buildSlice 23 1 #[(0, .tmp 90)]) none [1]) (o3 : OpIn ops 3 (some 92) (.call { callee := .builtin .append, args := #[.tmp 89, .tmp 91], argTypes := #[23, 23] }) none [0, 2]) (o4 : OpIn ops 4 (some 93) (.move (.tmp 12)) none []) (o5 : OpIn ops 5 (some 94) (.move (.tmp 1)) none []) (o6 : OpIn ops 6 (some 95) (.move (.tmp 13)) none []) (o7 : OpIn ops 7 (some 96) (.indexAddr 23 (.tmp 94) (.tmp 95)) none [5, 6]) (o8 : OpIn ops 8 (some 97) (.load 22 (.tmp 96)) none [7]) (o9 : OpIn ops 9 (some 98) (.buildSlice 23 1 #[(0, .tmp 97)]) none [8]) (o10 : OpIn ops 10 (some 99) (.call { callee := .builtin .append, args := #[.tmp 93, .tmp 98], argTypes := #[23, 23] }) none [4, 9]) (o11 : OpIn ops 11 (some 11) (.assign (.tmp 92)) none [0, 3]) (o12 : OpIn ops 12 (some 12) (.assign (.tmp 99)) none [4, 10])
    (hW : Below B W0 w0) (hB : B ≤ w0.heap.size) (hT : Two B w0 u1 n1 xs1 u2 n2 xs2) (hn1 : (n1 + 1) * 24 ≤ 140737488355328) (hn2 : (n2 + 1) * 24 ≤ 140737488355328)
    (x7 : ∀ w, (Instr.indexAt 23 (.slice (some x) n c) (.int .i64 k)).run Try.prog w = .ok (.pointer (some (x.add k))) w)
    (x8 : ∀ w, Below B W0 w → (Instr.loadAt 22 (.pointer (some (x.add k)))).run Try.prog w = .ok (.slice va vl vc) w)
    (u_1 : a0.tmps.getD 1 undef = .slice (some x) n c)
    (u_13 : a0.tmps.getD 13 undef = .int .i64 k)
    (u_14 : a0.tmps.getD 14 undef = .slice sa sl sc)
    (ur1 : a0.tmps.getD 11 undef = u1)
    (ur2 : a0.tmps.getD 12 undef = u2)
    (hs : 161 ≤ a0.tmps.size)
    (fin : ∀ a w v1 v2, a.tmps.size = a0.tmps.size → a.defers = a0.defers → (∀ s, (∀ i, i < 13 → pfD i ≠ some s) → a.tmps.getD s undef = a0.tmps.getD s undef) → Below B W0 w → Beside w0 w u1 u2 → Stays w0 u1 v1 → Stays w0 u2 v2 → Two B w v1 (n1 + 1) (xs1 ++ [.slice sa sl sc]) v2 (n2 + 1) (xs2 ++ [.slice va vl vc]) → a.tmps.getD 11 undef = v1 → a.tmps.getD 12 undef = v2 → Q .normal a w) : (Code.region id ops true).wp Try.prog Q a0 w0 := by
  refine wp_region_inv2 (by kernel_rfl) hlow (Inv 13 pfD a0 (TwoR 3 2 11 92 91 11 10 9 12 99 98 12 B W0 u1 n1 xs1 (.slice sa sl sc) u2 n2 xs2 (.slice va vl vc) w0) (fun _ => pfF x n c k sl sc vl vc sa va u1 u2)) (Inv.start (TwoR.start ⟨hW.os, hW.tape, hW.output, hW.size, hW.block⟩ hB ⟨hT.o1, hT.o2, hT.ap⟩ ur1 ur2 ⟨Nat.le_refl _, fun _ _ _ _ => rfl⟩)) ?_ ?_
  · intro l i o a w ho hl hcl hdep hI
    have hi : i < 13 := by rw [← hsz]; exact (Array.getElem?_eq_some_iff.1 ho).1
    have ev : ∀ (s : Nat), a.eval (.tmp s) = a.tmps.getD s undef := fun _ => rfl
    have evc : ∀ c : Value, a.eval (.const c) = c := fun _ => rfl
    have inj : ∀ d, pfD i = some d → ∀ j d', j < 13 → pfD j = some d' → j ≠ i → d' ≠ d := fun d hd j d' hj hd' hne e => hne (pfD_inj j hj i hi (by rw [hd', hd, e]) (by rw [hd']; simp))
    have kp : ∀ s, (∀ i, i < 13 → pfD i ≠ some s) → a.tmps.getD s undef = a0.tmps.getD s undef := hI.kept
    have hw := hI.world
    have hbw : Below B W0 w := by obtain ⟨_, _, h, _⟩ := hw; exact h
    have hz : a.tmps.size = a0.tmps.size := hI.size
    have go : ∀ {d : Nat} {v : Value} {w' : World}, pfD i = some d → TwoR 3 2 11 92 91 11 10 9 12 99 98 12 B W0 u1 n1 xs1 (.slice sa sl sc) u2 n2 xs2 (.slice va vl vc) w0 (fun j => l j || j == i) (a.put (some d) v) w' → pfF x n c k sl sc vl vc sa va u1 u2 i v w' → Inv 13 pfD a0 (TwoR 3 2 11 92 91 11 10 9 12 99 98 12 B W0 u1 n1 xs1 (.slice sa sl sc) u2 n2 xs2 (.slice va vl vc) w0) (fun _ => pfF x n c k sl sc vl vc sa va u1 u2) (fun j => l j || j == i) (a.put (some d) v) w' := by
      intro d v w' hD hR hF
      exact hI.put hi hD (Nat.lt_of_lt_of_le (pfD_lt i hi d hD) hs) (inj d hD) hR hF (fun j u _ _ _ hf => hf)
    rcases (show i = 0 ∨ i = 1 ∨ i = 2 ∨ i = 3 ∨ i = 4 ∨ i = 5 ∨ i = 6 ∨ i = 7 ∨ i = 8 ∨ i = 9 ∨ i = 10 ∨ i = 11 ∨ i = 12 by omega) with rfl | rfl | rfl | rfl | rfl | rfl | rfl | rfl | rfl | rfl | rfl | rfl | rfl
    · obtain ⟨o', e1, e2, e3, e4, e5⟩ := o0
      obtain rfl := Option.some.inj (ho.symm.trans e1)
      have dp := dep_of' e5 hdep
      have hd : 89 < a.tmps.size := by rw [hz]; exact Nat.lt_of_lt_of_le (by decide) hs
      have hE : l 11 = false := by
        cases h : l 11 with
        | false => rfl
        | true => have := hcl.dep' o11 h 0 (by decide); rw [hl] at this; cases this
      have U11 : a.tmps.getD 11 undef = u1 := hw.slot1 hE
      exact wpOp_value (v := u1) (w' := w) ho e4 (by simp [execOp, e3, ev, evc, U11]) (by rw [e2]; exact go rfl (hw.pure hd (by decide) (by decide) (by decide) (by decide)) rfl)
    · obtain ⟨o', e1, e2, e3, e4, e5⟩ := o1
      obtain rfl := Option.some.inj (ho.symm.trans e1)
      have dp := dep_of' e5 hdep
      have hd : 90 < a.tmps.size := by rw [hz]; exact Nat.lt_of_lt_of_le (by decide) hs
      have U14 : a.tmps.getD 14 undef = .slice sa sl sc := (kp 14 (by decide)).trans u_14
      exact wpOp_value (v := .slice sa sl sc) (w' := w) ho e4 (by simp [execOp, e3, ev, evc, U14]) (by rw [e2]; exact go rfl (hw.pure hd (by decide) (by decide) (by decide) (by decide)) rfl)
    · obtain ⟨o', e1, e2, e3, e4, e5⟩ := o2
      obtain rfl := Option.some.inj (ho.symm.trans e1)
      have dp := dep_of' e5 hdep
      have hd : 91 < a.tmps.size := by rw [hz]; exact Nat.lt_of_lt_of_le (by decide) hs
      have V1 : a.tmps.getD 90 undef = .slice sa sl sc := hI.val 1 90 (by decide) rfl (dp 1 (by decide))
      exact wpOp_value (v := .slice (some ⟨w.heap.size, 0, none⟩) 1 1) (w' := w.alloc (.cells #[.slice sa sl sc] 22)) ho e4 (by simp [execOp, e3, ev, evc, V1, run_build23]) (by rw [e2]; exact go rfl (TwoR.lit1 hw hd (by decide) (by decide) (by decide) (by decide)) trivial)
    · obtain ⟨o', e1, e2, e3, e4, e5⟩ := o3
      obtain rfl := Option.some.inj (ho.symm.trans e1)
      have dp := dep_of' e5 hdep
      have hd : 92 < a.tmps.size := by rw [hz]; exact Nat.lt_of_lt_of_le (by decide) hs
      have V0 : a.tmps.getD 89 undef = u1 := hI.val 0 89 (by decide) rfl (dp 0 (by decide))
      have hE : l 11 = false := by
        cases h : l 11 with
        | false => rfl
        | true => have := hcl.dep' o11 h 3 (by decide); rw [hl] at this; cases this
      obtain ⟨g, v', w', ht, hr, hR⟩ := TwoR.app1 hw hd (dp 2 (by decide)) hl hE (by decide) (by decide) (by decide) (by decide) rfl hn1 o.type
      exact wpOp_value (v := v') (w' := w') ho e4 (by simp [execOp, e3, resolve, invoke, builtin, ev, V0, ht, hr]) (by rw [e2]; exact go rfl hR trivial)
    · obtain ⟨o', e1, e2, e3, e4, e5⟩ := o4
      obtain rfl := Option.some.inj (ho.symm.trans e1)
      have dp := dep_of' e5 hdep
      have hd : 93 < a.tmps.size := by rw [hz]; exact Nat.lt_of_lt_of_le (by decide) hs
      have hE : l 12 = false := by
        cases h : l 12 with
        | false => rfl
        | true => have := hcl.dep' o12 h 4 (by decide); rw [hl] at this; cases this
      have U12 : a.tmps.getD 12 undef = u2 := hw.slot2 hE
      exact wpOp_value (v := u2) (w' := w) ho e4 (by simp [execOp, e3, ev, evc, U12]) (by rw [e2]; exact go rfl (hw.pure hd (by decide) (by decide) (by decide) (by decide)) rfl)
    · obtain ⟨o', e1, e2, e3, e4, e5⟩ := o5
      obtain rfl := Option.some.inj (ho.symm.trans e1)
      have dp := dep_of' e5 hdep
      have hd : 94 < a.tmps.size := by rw [hz]; exact Nat.lt_of_lt_of_le (by decide) hs
      have U1 : a.tmps.getD 1 undef = .slice (some x) n c := (kp 1 (by decide)).trans u_1
      exact wpOp_value (v := .slice (some x) n c) (w' := w) ho e4 (by simp [execOp, e3, ev, evc, U1]) (by rw [e2]; exact go rfl (hw.pure hd (by decide) (by decide) (by decide) (by decide)) rfl)
    · obtain ⟨o', e1, e2, e3, e4, e5⟩ := o6
      obtain rfl := Option.some.inj (ho.symm.trans e1)
      have dp := dep_of' e5 hdep
      have hd : 95 < a.tmps.size := by rw [hz]; exact Nat.lt_of_lt_of_le (by decide) hs
      have U13 : a.tmps.getD 13 undef = .int .i64 k := (kp 13 (by decide)).trans u_13
      exact wpOp_value (v := .int .i64 k) (w' := w) ho e4 (by simp [execOp, e3, ev, evc, U13]) (by rw [e2]; exact go rfl (hw.pure hd (by decide) (by decide) (by decide) (by decide)) rfl)
    · obtain ⟨o', e1, e2, e3, e4, e5⟩ := o7
      obtain rfl := Option.some.inj (ho.symm.trans e1)
      have dp := dep_of' e5 hdep
      have hd : 96 < a.tmps.size := by rw [hz]; exact Nat.lt_of_lt_of_le (by decide) hs
      have V5 : a.tmps.getD 94 undef = .slice (some x) n c := hI.val 5 94 (by decide) rfl (dp 5 (by decide))
      have V6 : a.tmps.getD 95 undef = .int .i64 k := hI.val 6 95 (by decide) rfl (dp 6 (by decide))
      exact wpOp_value (v := .pointer (some (x.add k))) (w' := w) ho e4 (by simp [execOp, e3, ev, evc, V5, V6, x7 w]) (by rw [e2]; exact go rfl (hw.pure hd (by decide) (by decide) (by decide) (by decide)) rfl)
    · obtain ⟨o', e1, e2, e3, e4, e5⟩ := o8
      obtain rfl := Option.some.inj (ho.symm.trans e1)
      have dp := dep_of' e5 hdep
      have hd : 97 < a.tmps.size := by rw [hz]; exact Nat.lt_of_lt_of_le (by decide) hs
      have V7 : a.tmps.getD 96 undef = .pointer (some (x.add k)) := hI.val 7 96 (by decide) rfl (dp 7 (by decide))
      exact wpOp_value (v := .slice va vl vc) (w' := w) ho e4 (by simp [execOp, e3, ev, evc, V7, x8 w hbw]) (by rw [e2]; exact go rfl (hw.pure hd (by decide) (by decide) (by decide) (by decide)) rfl)
    · obtain ⟨o', e1, e2, e3, e4, e5⟩ := o9
      obtain rfl := Option.some.inj (ho.symm.trans e1)
      have dp := dep_of' e5 hdep
      have hd : 98 < a.tmps.size := by rw [hz]; exact Nat.lt_of_lt_of_le (by decide) hs
      have V8 : a.tmps.getD 97 undef = .slice va vl vc := hI.val 8 97 (by decide) rfl (dp 8 (by decide))
      exact wpOp_value (v := .slice (some ⟨w.heap.size, 0, none⟩) 1 1) (w' := w.alloc (.cells #[.slice va vl vc] 22)) ho e4 (by simp [execOp, e3, ev, evc, V8, run_build23]) (by rw [e2]; exact go rfl (TwoR.lit1 hw.swap hd (by decide) (by decide) (by decide) (by decide)).swap trivial)
    · obtain ⟨o', e1, e2, e3, e4, e5⟩ := o10
      obtain rfl := Option.some.inj (ho.symm.trans e1)
      have dp := dep_of' e5 hdep
      have hd : 99 < a.tmps.size := by rw [hz]; exact Nat.lt_of_lt_of_le (by decide) hs
      have V4 : a.tmps.getD 93 undef = u2 := hI.val 4 93 (by decide) rfl (dp 4 (by decide))
      have hE : l 12 = false := by
        cases h : l 12 with
        | false => rfl
        | true => have := hcl.dep' o12 h 10 (by decide); rw [hl] at this; cases this
      obtain ⟨g, v', w', ht, hr, hR⟩ := TwoR.app1 hw.swap hd (dp 9 (by decide)) hl hE (by decide) (by decide) (by decide) (by decide) rfl hn2 o.type
      exact wpOp_value (v := v') (w' := w') ho e4 (by simp [execOp, e3, resolve, invoke, builtin, ev, V4, ht, hr]) (by rw [e2]; exact go rfl hR.swap trivial)
    · obtain ⟨o', e1, e2, e3, e4, e5⟩ := o11
      obtain rfl := Option.some.inj (ho.symm.trans e1)
      have dp := dep_of' e5 hdep
      have hd : 11 < a.tmps.size := by rw [hz]; exact Nat.lt_of_lt_of_le (by decide) hs
      exact wpOp_value (v := a.tmps.getD 92 undef) (w' := w) ho e4 (by simp [execOp, e3, ev]) (by rw [e2]; exact go rfl (TwoR.end1 hw hd (dp 3 (by decide)) (by decide) (by decide) (by decide) (by decide)) trivial)
    · obtain ⟨o', e1, e2, e3, e4, e5⟩ := o12
      obtain rfl := Option.some.inj (ho.symm.trans e1)
      have dp := dep_of' e5 hdep
      have hd : 12 < a.tmps.size := by rw [hz]; exact Nat.lt_of_lt_of_le (by decide) hs
      exact wpOp_value (v := a.tmps.getD 99 undef) (w' := w) ho e4 (by simp [execOp, e3, ev]) (by rw [e2]; exact go rfl (TwoR.end1 hw.swap hd (dp 10 (by decide)) (by decide) (by decide) (by decide) (by decide)).swap trivial)
  · intro l a w hall hI
    have all : ∀ j, j < 13 → l j = true := fun j hj => hall j (by rw [hsz]; exact hj)
    obtain ⟨v1, v2, h1, h2, hq, h3, h4, h5⟩ := hI.world
    simp only [all 3 (by decide), all 10 (by decide), if_true] at h3
    refine fin a w v1 v2 hI.size hI.defers hI.kept h1 hq.1 hq.2.1 hq.2.2 h3 ?_ ?_
    · rw [h4.2.2, if_pos (all 11 (by decide))]
    · rw [h5.2.2, if_pos (all 12 (by decide))]

end Go.Proofs.Ythbddbipmoflfaa
