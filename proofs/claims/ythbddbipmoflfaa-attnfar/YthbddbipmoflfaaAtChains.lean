/- The two regions in which a row is put among the keys, and one among the values. -/
import Derived.Test.YthbddbipmoflfaaRows
import Derived.Test.YthbddbipmoflfaaView
import Derived.Test.YthbddbipmoflfaaOwn
import Derived.Test.YthbddbipmoflfaaWhere
import Derived.Test.YthbddbipmoflfaaMean
import Derived.Test.YthbddbipmoflfaaGrids
import Derived.Test.YthbddbipmoflfaaInvIn
import Derived.Test.YthbddbipmoflfaaAtReg
import Derived.Test.YthbddbipmoflfaaAtTwo
import Derived.Test.YthbddbipmoflfaaAtChain
import Derived.WalkKit
import Derived.ProofKit
import Derived.OpenShut
import Derived.Below
import Derived.WalkLawsBesides
import Derived.Deep.QuietTactic
import Derived.BigQuiet
import Derived.Orders
import Derived.Shelf.Abstract
namespace Go.Proofs.Ythbddbipmoflfaa
open Go.ChangeShapes Go.WideShapes Go.ChangeAt Go.RowKit
set_option linter.unusedVariables false
set_option linter.unusedSimpArgs false

def ckD (i : Nat) : Option Nat := match i with | 0 => some 119 | 1 => some 120 | 2 => some 121 | 3 => some 122 | 4 => some 123 | 5 => some 124 | 6 => some 125 | 7 => some 126 | 8 => some 127 | 9 => some 128 | 10 => some 129 | 11 => some 130 | 12 => some 19 | _ => none
theorem ckD_inj : ∀ i, i < 13 → ∀ j, j < 13 → ckD i = ckD j → ckD i ≠ none → i = j := by decide
theorem ckD_lt : ∀ i, i < 13 → ∀ d, ckD i = some d → d < 161 := by
  intro i hi d h
  have : ∀ i, i < 13 → (ckD i).all (fun d => decide (d < 161)) = true := by decide
  have := this i hi
  rw [h] at this
  simpa using this
def ckF (x X : Addr) (n c j sl sc : Nat) (sa : Option Addr) (i : Nat) (q : Value) (w : World) : Prop := match i with
  | 0 => True
  | 1 => q = .slice (some x) n c
  | 2 => q = .int .i64 j
  | 3 => q = .slice (some x) j c
  | 4 => True
  | 5 => q = .slice sa sl sc
  | 6 => True
  | 7 => True
  | 8 => q = .slice (some x) n c
  | 9 => q = .int .i64 j
  | 10 => q = .slice (some X) (n - j) (c - j)
  | 11 => True
  | 12 => True
  | _ => True

set_option maxHeartbeats 8000000 in
theorem ck_region {id : Nat} {ops : Array Oper} {Q : Exit → Act → World → Prop} {a0 : Act} {w0 : World} (x X : Addr) (n c j sl sc : Nat) (sa : Option Addr) (B : Nat) (W0 : World) (X1 X3 : List Value) (hlow : lowB ops = true) (hsz : ops.size = 13)
    (o0 : OpIn ops 0 (some 119) (.buildSlice 23 0 #[]) none []) (o1 : OpIn ops 1 (some 120) (.move (.tmp 11)) none []) (o2 : OpIn ops 2 (some 121) (.move (.tmp 18)) none []) (o3 : OpIn ops 3 (some 122) (.slice 23 (.tmp 120) none (some (.tmp 121)) none) none [1, 2]) (o4 : OpIn ops 4 (some 123) (.call { callee := .builtin .append, args := #[.tmp 119, .tmp 122], argTypes := #[23, 23] }) none [0, 3]) (o5 : OpIn ops 5 (some 124) (.move (.tmp 15)) none []) (o6 : OpIn ops 6 (some 125) (.buildSlice 23 1 #[(0, .tmp 124)]) none [5]) (o7 : OpIn ops 7 (some 126) (.call { callee := .builtin .append, args := #[.tmp 123, .tmp 125], argTypes := #[23, 23] }) none [4, 6]) (o8 : OpIn ops 8 (some 127) (.move (.tmp 11)) none []) (o9 : OpIn ops 9 (some 128) (.move (.tmp 18)) none []) (o10 : OpIn ops 10 (some 129) (.slice 23 (.tmp 127) (some (.tmp 128)) none none) none [8, 9]) (o11 : OpIn ops 11 (some 130) (.call { callee := .builtin .append, args := #[.tmp 126, .tmp 129], argTypes := #[23, 23] }) none [7, 10]) (o12 : OpIn ops 12 (some 19) (.assign (.tmp 130)) none [11])
    (hW : Below B W0 w0) (hB : B ≤ w0.heap.size)
    (x3 : ∀ w, (Instr.sliceAt 23 (.slice (some x) n c) none (some (.int .i64 j)) none).run Try.prog w = .ok (.slice (some x) j c) w)
    (x10 : ∀ w, (Instr.sliceAt 23 (.slice (some x) n c) (some (.int .i64 j)) none none).run Try.prog w = .ok (.slice (some X) (n - j) (c - j)) w)
    (hX1 : X1.length = j) (hX3 : X3.length = n - j) (c1 : ∀ w, Below B W0 w → ∀ i u, X1[i]? = some u → w.cell? (x.add i) = some u) (c3 : ∀ w, Below B W0 w → ∀ i u, X3[i]? = some u → w.cell? (X.add i) = some u)
    (k1 : ∀ u ∈ X1, u.oneCell' = true) (k3 : ∀ u ∈ X3, u.oneCell' = true) (hn : n ≤ 900) (hj : j ≤ n)
    (u_11 : a0.tmps.getD 11 undef = .slice (some x) n c)
    (u_15 : a0.tmps.getD 15 undef = .slice sa sl sc)
    (u_18 : a0.tmps.getD 18 undef = .int .i64 j)
    (hs : 161 ≤ a0.tmps.size)
    (fin : ∀ a w v, a.tmps.size = a0.tmps.size → a.defers = a0.defers → (∀ s, (∀ i, i < 13 → ckD i ≠ some s) → a.tmps.getD s undef = a0.tmps.getD s undef) → Below B W0 w → w.ownsRow B 22 1 v (j + 1 + (n - j)) (X1 ++ [.slice sa sl sc] ++ X3) → a.tmps.getD 19 undef = v → Q .normal a w) :
    (Code.region id ops true).wp Try.prog Q a0 w0 := by
  refine wp_region_inv2 (by kernel_rfl) hlow (Inv 13 ckD a0 (ChainR 0 4 6 7 11 12 119 123 125 126 130 19 B W0 j X1 (.slice sa sl sc) (n - j) X3) (fun _ => ckF x X n c j sl sc sa)) (Inv.start (ChainR.start ⟨hW.os, hW.tape, hW.output, hW.size, hW.block⟩ hB)) ?_ ?_
  · intro l i o a w ho hl hcl hdep hI
    have hi : i < 13 := by rw [← hsz]; exact (Array.getElem?_eq_some_iff.1 ho).1
    have ev : ∀ (s : Nat), a.eval (.tmp s) = a.tmps.getD s undef := fun _ => rfl
    have inj : ∀ d, ckD i = some d → ∀ j d', j < 13 → ckD j = some d' → j ≠ i → d' ≠ d := fun d hd j d' hj hd' hne e => hne (ckD_inj j hj i hi (by rw [hd', hd, e]) (by rw [hd']; simp))
    have kp : ∀ s, (∀ i, i < 13 → ckD i ≠ some s) → a.tmps.getD s undef = a0.tmps.getD s undef := hI.kept
    have hw := hI.world
    have hbw : Below B W0 w := by obtain ⟨_, h, _⟩ := hw; exact h
    have hz : a.tmps.size = a0.tmps.size := hI.size
    have d12 : l 12 = true → l 11 = true := fun h => hcl.dep' o12 h 11 (by decide)
    have d11 : l 11 = true → l 7 = true := fun h => hcl.dep' o11 h 7 (by decide)
    have d7 : l 7 = true → l 4 = true := fun h => hcl.dep' o7 h 4 (by decide)
    have d4 : l 4 = true → l 0 = true := fun h => hcl.dep' o4 h 0 (by decide)
    have no : ∀ {p q : Nat}, (l p = true → l q = true) → l q = false → l p = false := fun h e => by
      cases hp : l _ with
      | false => rfl
      | true => rw [h hp] at e; cases e
    have go : ∀ {d : Nat} {v : Value} {w' : World}, ckD i = some d → ChainR 0 4 6 7 11 12 119 123 125 126 130 19 B W0 j X1 (.slice sa sl sc) (n - j) X3 (fun j => l j || j == i) (a.put (some d) v) w' → ckF x X n c j sl sc sa i v w' → Inv 13 ckD a0 (ChainR 0 4 6 7 11 12 119 123 125 126 130 19 B W0 j X1 (.slice sa sl sc) (n - j) X3) (fun _ => ckF x X n c j sl sc sa) (fun j => l j || j == i) (a.put (some d) v) w' := by
      intro d v w' hD hR hF
      exact hI.put hi hD (Nat.lt_of_lt_of_le (ckD_lt i hi d hD) hs) (inj d hD) hR hF (fun j u _ _ _ hf => hf)
    rcases (show i = 0 ∨ i = 1 ∨ i = 2 ∨ i = 3 ∨ i = 4 ∨ i = 5 ∨ i = 6 ∨ i = 7 ∨ i = 8 ∨ i = 9 ∨ i = 10 ∨ i = 11 ∨ i = 12 by omega) with rfl | rfl | rfl | rfl | rfl | rfl | rfl | rfl | rfl | rfl | rfl | rfl | rfl
    · obtain ⟨o', e1, e2, e3, e4, e5⟩ := o0
      obtain rfl := Option.some.inj (ho.symm.trans e1)
      have dp := dep_of' e5 hdep
      have hd : 119 < a.tmps.size := by rw [hz]; exact Nat.lt_of_lt_of_le (by decide) hs
      have n4 := no d4 hl
      have n7 := no d7 n4
      have n11 := no d11 n7
      exact wpOp_value (v := .slice (some ⟨w.heap.size, 0, none⟩) 0 0) (w' := w.alloc (.cells #[] 22)) ho e4 (by simp [execOp, e3, run_build0]) (by rw [e2]; exact go rfl (ChainR.init hw hd ⟨n4, n7, n11, no d12 n11⟩ (by decide) (by decide)) trivial)
    · obtain ⟨o', e1, e2, e3, e4, e5⟩ := o1
      obtain rfl := Option.some.inj (ho.symm.trans e1)
      have dp := dep_of' e5 hdep
      have hd : 120 < a.tmps.size := by rw [hz]; exact Nat.lt_of_lt_of_le (by decide) hs
      have U11 : a.tmps.getD 11 undef = .slice (some x) n c := (kp 11 (by decide)).trans u_11
      exact wpOp_value (v := .slice (some x) n c) (w' := w) ho e4 (by simp [execOp, e3, ev, U11]) (by rw [e2]; exact go rfl (hw.pure hd (by decide) (by decide)) rfl)
    · obtain ⟨o', e1, e2, e3, e4, e5⟩ := o2
      obtain rfl := Option.some.inj (ho.symm.trans e1)
      have dp := dep_of' e5 hdep
      have hd : 121 < a.tmps.size := by rw [hz]; exact Nat.lt_of_lt_of_le (by decide) hs
      have U18 : a.tmps.getD 18 undef = .int .i64 j := (kp 18 (by decide)).trans u_18
      exact wpOp_value (v := .int .i64 j) (w' := w) ho e4 (by simp [execOp, e3, ev, U18]) (by rw [e2]; exact go rfl (hw.pure hd (by decide) (by decide)) rfl)
    · obtain ⟨o', e1, e2, e3, e4, e5⟩ := o3
      obtain rfl := Option.some.inj (ho.symm.trans e1)
      have dp := dep_of' e5 hdep
      have hd : 122 < a.tmps.size := by rw [hz]; exact Nat.lt_of_lt_of_le (by decide) hs
      have V1 : a.tmps.getD 120 undef = .slice (some x) n c := hI.val 1 120 (by decide) rfl (dp 1 (by decide))
      have V2 : a.tmps.getD 121 undef = .int .i64 j := hI.val 2 121 (by decide) rfl (dp 2 (by decide))
      exact wpOp_value (v := .slice (some x) j c) (w' := w) ho e4 (by simp [execOp, e3, ev, V1, V2, x3 w]) (by rw [e2]; exact go rfl (hw.pure hd (by decide) (by decide)) rfl)
    · obtain ⟨o', e1, e2, e3, e4, e5⟩ := o4
      obtain rfl := Option.some.inj (ho.symm.trans e1)
      have dp := dep_of' e5 hdep
      have hd : 123 < a.tmps.size := by rw [hz]; exact Nat.lt_of_lt_of_le (by decide) hs
      have V3 : a.tmps.getD 122 undef = .slice (some x) j c := hI.val 3 122 (by decide) rfl (dp 3 (by decide))
      have n7 := no d7 hl
      have n11 := no d11 n7
      obtain ⟨v', w', hr, hR⟩ := ChainR.app1 hw hd (dp 0 (by decide)) ⟨hl, n7, n11, no d12 n11⟩ (by decide) (by decide) (ad := x) c hX1 (c1 w hbw) k1 (by omega) o.type
      obtain ⟨G, hG⟩ : ∃ G, a.tmps.getD 119 undef = G := ⟨_, rfl⟩
      rw [hG] at hr
      exact wpOp_value (v := v') (w' := w') ho e4 (by simp [execOp, e3, resolve, invoke, builtin, ev, V3, hG, hr]) (by rw [e2]; exact go rfl hR trivial)
    · obtain ⟨o', e1, e2, e3, e4, e5⟩ := o5
      obtain rfl := Option.some.inj (ho.symm.trans e1)
      have dp := dep_of' e5 hdep
      have hd : 124 < a.tmps.size := by rw [hz]; exact Nat.lt_of_lt_of_le (by decide) hs
      have U15 : a.tmps.getD 15 undef = .slice sa sl sc := (kp 15 (by decide)).trans u_15
      exact wpOp_value (v := .slice sa sl sc) (w' := w) ho e4 (by simp [execOp, e3, ev, U15]) (by rw [e2]; exact go rfl (hw.pure hd (by decide) (by decide)) rfl)
    · obtain ⟨o', e1, e2, e3, e4, e5⟩ := o6
      obtain rfl := Option.some.inj (ho.symm.trans e1)
      have dp := dep_of' e5 hdep
      have hd : 125 < a.tmps.size := by rw [hz]; exact Nat.lt_of_lt_of_le (by decide) hs
      have V5 : a.tmps.getD 124 undef = .slice sa sl sc := hI.val 5 124 (by decide) rfl (dp 5 (by decide))
      exact wpOp_value (v := .slice (some ⟨w.heap.size, 0, none⟩) 1 1) (w' := w.alloc (.cells #[.slice sa sl sc] 22)) ho e4 (by simp [execOp, e3, ev, V5, run_build23]) (by rw [e2]; exact go rfl (ChainR.lit hw hd (by decide) (by decide)) trivial)
    · obtain ⟨o', e1, e2, e3, e4, e5⟩ := o7
      obtain rfl := Option.some.inj (ho.symm.trans e1)
      have dp := dep_of' e5 hdep
      have hd : 126 < a.tmps.size := by rw [hz]; exact Nat.lt_of_lt_of_le (by decide) hs
      have n11 := no d11 hl
      obtain ⟨g, v', w', ht, hr, hR⟩ := ChainR.app2 hw hd (dp 4 (by decide)) (dp 6 (by decide)) ⟨hl, n11, no d12 n11⟩ (by decide) (by decide) rfl (by omega) o.type
      obtain ⟨G, hG⟩ : ∃ G, a.tmps.getD 123 undef = G := ⟨_, rfl⟩
      rw [hG] at hr
      exact wpOp_value (v := v') (w' := w') ho e4 (by simp [execOp, e3, resolve, invoke, builtin, ev, ht, hG, hr]) (by rw [e2]; exact go rfl hR trivial)
    · obtain ⟨o', e1, e2, e3, e4, e5⟩ := o8
      obtain rfl := Option.some.inj (ho.symm.trans e1)
      have dp := dep_of' e5 hdep
      have hd : 127 < a.tmps.size := by rw [hz]; exact Nat.lt_of_lt_of_le (by decide) hs
      have U11 : a.tmps.getD 11 undef = .slice (some x) n c := (kp 11 (by decide)).trans u_11
      exact wpOp_value (v := .slice (some x) n c) (w' := w) ho e4 (by simp [execOp, e3, ev, U11]) (by rw [e2]; exact go rfl (hw.pure hd (by decide) (by decide)) rfl)
    · obtain ⟨o', e1, e2, e3, e4, e5⟩ := o9
      obtain rfl := Option.some.inj (ho.symm.trans e1)
      have dp := dep_of' e5 hdep
      have hd : 128 < a.tmps.size := by rw [hz]; exact Nat.lt_of_lt_of_le (by decide) hs
      have U18 : a.tmps.getD 18 undef = .int .i64 j := (kp 18 (by decide)).trans u_18
      exact wpOp_value (v := .int .i64 j) (w' := w) ho e4 (by simp [execOp, e3, ev, U18]) (by rw [e2]; exact go rfl (hw.pure hd (by decide) (by decide)) rfl)
    · obtain ⟨o', e1, e2, e3, e4, e5⟩ := o10
      obtain rfl := Option.some.inj (ho.symm.trans e1)
      have dp := dep_of' e5 hdep
      have hd : 129 < a.tmps.size := by rw [hz]; exact Nat.lt_of_lt_of_le (by decide) hs
      have V8 : a.tmps.getD 127 undef = .slice (some x) n c := hI.val 8 127 (by decide) rfl (dp 8 (by decide))
      have V9 : a.tmps.getD 128 undef = .int .i64 j := hI.val 9 128 (by decide) rfl (dp 9 (by decide))
      exact wpOp_value (v := .slice (some X) (n - j) (c - j)) (w' := w) ho e4 (by simp [execOp, e3, ev, V8, V9, x10 w]) (by rw [e2]; exact go rfl (hw.pure hd (by decide) (by decide)) rfl)
    · obtain ⟨o', e1, e2, e3, e4, e5⟩ := o11
      obtain rfl := Option.some.inj (ho.symm.trans e1)
      have dp := dep_of' e5 hdep
      have hd : 130 < a.tmps.size := by rw [hz]; exact Nat.lt_of_lt_of_le (by decide) hs
      have V10 : a.tmps.getD 129 undef = .slice (some X) (n - j) (c - j) := hI.val 10 129 (by decide) rfl (dp 10 (by decide))
      have y7 := dp 7 (by decide)
      obtain ⟨v', w', hr, hR⟩ := ChainR.app3 hw hd (d7 y7) y7 ⟨hl, no d12 hl⟩ (by decide) (by decide) (ad := X) (c - j) hX3 (c3 w hbw) k3 (by omega) o.type
      obtain ⟨G, hG⟩ : ∃ G, a.tmps.getD 126 undef = G := ⟨_, rfl⟩
      rw [hG] at hr
      exact wpOp_value (v := v') (w' := w') ho e4 (by simp [execOp, e3, resolve, invoke, builtin, ev, V10, hG, hr]) (by rw [e2]; exact go rfl hR trivial)
    · obtain ⟨o', e1, e2, e3, e4, e5⟩ := o12
      obtain rfl := Option.some.inj (ho.symm.trans e1)
      have dp := dep_of' e5 hdep
      have hd : 19 < a.tmps.size := by rw [hz]; exact Nat.lt_of_lt_of_le (by decide) hs
      exact wpOp_value (v := a.tmps.getD 130 undef) (w' := w) ho e4 (by simp [execOp, e3, ev]) (by rw [e2]; exact go rfl (ChainR.end_ hw hd (dp 11 (by decide)) (by decide) (by decide)) trivial)
  · intro l a w hall hI
    have all : ∀ j, j < 13 → l j = true := fun j hj => hall j (by rw [hsz]; exact hj)
    obtain ⟨v, h1, h2, h3, h4, h5, h6⟩ := hI.world
    simp only [all 4 (by decide), all 7 (by decide), all 11 (by decide), if_true] at h3
    exact fin a w v hI.size hI.defers hI.kept h1 h3 (h6 (all 12 (by decide)))

def cvD (i : Nat) : Option Nat := match i with | 0 => some 131 | 1 => some 132 | 2 => some 133 | 3 => some 134 | 4 => some 135 | 5 => some 136 | 6 => some 137 | 7 => some 138 | 8 => some 139 | 9 => some 140 | 10 => some 141 | 11 => some 142 | 12 => some 20 | _ => none
theorem cvD_inj : ∀ i, i < 13 → ∀ j, j < 13 → cvD i = cvD j → cvD i ≠ none → i = j := by decide
theorem cvD_lt : ∀ i, i < 13 → ∀ d, cvD i = some d → d < 161 := by
  intro i hi d h
  have : ∀ i, i < 13 → (cvD i).all (fun d => decide (d < 161)) = true := by decide
  have := this i hi
  rw [h] at this
  simpa using this
def cvF (x X : Addr) (n c j sl sc : Nat) (sa : Option Addr) (i : Nat) (q : Value) (w : World) : Prop := match i with
  | 0 => True
  | 1 => q = .slice (some x) n c
  | 2 => q = .int .i64 j
  | 3 => q = .slice (some x) j c
  | 4 => True
  | 5 => q = .slice sa sl sc
  | 6 => True
  | 7 => True
  | 8 => q = .slice (some x) n c
  | 9 => q = .int .i64 j
  | 10 => q = .slice (some X) (n - j) (c - j)
  | 11 => True
  | 12 => True
  | _ => True

set_option maxHeartbeats 8000000 in
theorem cv_region {id : Nat} {ops : Array Oper} {Q : Exit → Act → World → Prop} {a0 : Act} {w0 : World} (x X : Addr) (n c j sl sc : Nat) (sa : Option Addr) (B : Nat) (W0 : World) (X1 X3 : List Value) (hlow : lowB ops = true) (hsz : ops.size = 13)
    (o0 : OpIn ops 0 (some 131) (.buildSlice 23 0 #[]) none []) (o1 : OpIn ops 1 (some 132) (.move (.tmp 12)) none []) (o2 : OpIn ops 2 (some 133) (.move (.tmp 18)) none []) (o3 : OpIn ops 3 (some 134) (.slice 23 (.tmp 132) none (some (.tmp 133)) none) none [1, 2]) (o4 : OpIn ops 4 (some 135) (.call { callee := .builtin .append, args := #[.tmp 131, .tmp 134], argTypes := #[23, 23] }) none [0, 3]) (o5 : OpIn ops 5 (some 136) (.move (.tmp 2)) none []) (o6 : OpIn ops 6 (some 137) (.buildSlice 23 1 #[(0, .tmp 136)]) none [5]) (o7 : OpIn ops 7 (some 138) (.call { callee := .builtin .append, args := #[.tmp 135, .tmp 137], argTypes := #[23, 23] }) none [4, 6]) (o8 : OpIn ops 8 (some 139) (.move (.tmp 12)) none []) (o9 : OpIn ops 9 (some 140) (.move (.tmp 18)) none []) (o10 : OpIn ops 10 (some 141) (.slice 23 (.tmp 139) (some (.tmp 140)) none none) none [8, 9]) (o11 : OpIn ops 11 (some 142) (.call { callee := .builtin .append, args := #[.tmp 138, .tmp 141], argTypes := #[23, 23] }) none [7, 10]) (o12 : OpIn ops 12 (some 20) (.assign (.tmp 142)) none [11])
    (hW : Below B W0 w0) (hB : B ≤ w0.heap.size)
    (x3 : ∀ w, (Instr.sliceAt 23 (.slice (some x) n c) none (some (.int .i64 j)) none).run Try.prog w = .ok (.slice (some x) j c) w)
    (x10 : ∀ w, (Instr.sliceAt 23 (.slice (some x) n c) (some (.int .i64 j)) none none).run Try.prog w = .ok (.slice (some X) (n - j) (c - j)) w)
    (hX1 : X1.length = j) (hX3 : X3.length = n - j) (c1 : ∀ w, Below B W0 w → ∀ i u, X1[i]? = some u → w.cell? (x.add i) = some u) (c3 : ∀ w, Below B W0 w → ∀ i u, X3[i]? = some u → w.cell? (X.add i) = some u)
    (k1 : ∀ u ∈ X1, u.oneCell' = true) (k3 : ∀ u ∈ X3, u.oneCell' = true) (hn : n ≤ 900) (hj : j ≤ n)
    (u_2 : a0.tmps.getD 2 undef = .slice sa sl sc)
    (u_12 : a0.tmps.getD 12 undef = .slice (some x) n c)
    (u_18 : a0.tmps.getD 18 undef = .int .i64 j)
    (hs : 161 ≤ a0.tmps.size)
    (fin : ∀ a w v, a.tmps.size = a0.tmps.size → a.defers = a0.defers → (∀ s, (∀ i, i < 13 → cvD i ≠ some s) → a.tmps.getD s undef = a0.tmps.getD s undef) → Below B W0 w → w.ownsRow B 22 1 v (j + 1 + (n - j)) (X1 ++ [.slice sa sl sc] ++ X3) → a.tmps.getD 20 undef = v → Q .normal a w) :
    (Code.region id ops true).wp Try.prog Q a0 w0 := by
  refine wp_region_inv2 (by kernel_rfl) hlow (Inv 13 cvD a0 (ChainR 0 4 6 7 11 12 131 135 137 138 142 20 B W0 j X1 (.slice sa sl sc) (n - j) X3) (fun _ => cvF x X n c j sl sc sa)) (Inv.start (ChainR.start ⟨hW.os, hW.tape, hW.output, hW.size, hW.block⟩ hB)) ?_ ?_
  · intro l i o a w ho hl hcl hdep hI
    have hi : i < 13 := by rw [← hsz]; exact (Array.getElem?_eq_some_iff.1 ho).1
    have ev : ∀ (s : Nat), a.eval (.tmp s) = a.tmps.getD s undef := fun _ => rfl
    have inj : ∀ d, cvD i = some d → ∀ j d', j < 13 → cvD j = some d' → j ≠ i → d' ≠ d := fun d hd j d' hj hd' hne e => hne (cvD_inj j hj i hi (by rw [hd', hd, e]) (by rw [hd']; simp))
    have kp : ∀ s, (∀ i, i < 13 → cvD i ≠ some s) → a.tmps.getD s undef = a0.tmps.getD s undef := hI.kept
    have hw := hI.world
    have hbw : Below B W0 w := by obtain ⟨_, h, _⟩ := hw; exact h
    have hz : a.tmps.size = a0.tmps.size := hI.size
    have d12 : l 12 = true → l 11 = true := fun h => hcl.dep' o12 h 11 (by decide)
    have d11 : l 11 = true → l 7 = true := fun h => hcl.dep' o11 h 7 (by decide)
    have d7 : l 7 = true → l 4 = true := fun h => hcl.dep' o7 h 4 (by decide)
    have d4 : l 4 = true → l 0 = true := fun h => hcl.dep' o4 h 0 (by decide)
    have no : ∀ {p q : Nat}, (l p = true → l q = true) → l q = false → l p = false := fun h e => by
      cases hp : l _ with
      | false => rfl
      | true => rw [h hp] at e; cases e
    have go : ∀ {d : Nat} {v : Value} {w' : World}, cvD i = some d → ChainR 0 4 6 7 11 12 131 135 137 138 142 20 B W0 j X1 (.slice sa sl sc) (n - j) X3 (fun j => l j || j == i) (a.put (some d) v) w' → cvF x X n c j sl sc sa i v w' → Inv 13 cvD a0 (ChainR 0 4 6 7 11 12 131 135 137 138 142 20 B W0 j X1 (.slice sa sl sc) (n - j) X3) (fun _ => cvF x X n c j sl sc sa) (fun j => l j || j == i) (a.put (some d) v) w' := by
      intro d v w' hD hR hF
      exact hI.put hi hD (Nat.lt_of_lt_of_le (cvD_lt i hi d hD) hs) (inj d hD) hR hF (fun j u _ _ _ hf => hf)
    rcases (show i = 0 ∨ i = 1 ∨ i = 2 ∨ i = 3 ∨ i = 4 ∨ i = 5 ∨ i = 6 ∨ i = 7 ∨ i = 8 ∨ i = 9 ∨ i = 10 ∨ i = 11 ∨ i = 12 by omega) with rfl | rfl | rfl | rfl | rfl | rfl | rfl | rfl | rfl | rfl | rfl | rfl | rfl
    · obtain ⟨o', e1, e2, e3, e4, e5⟩ := o0
      obtain rfl := Option.some.inj (ho.symm.trans e1)
      have dp := dep_of' e5 hdep
      have hd : 131 < a.tmps.size := by rw [hz]; exact Nat.lt_of_lt_of_le (by decide) hs
      have n4 := no d4 hl
      have n7 := no d7 n4
      have n11 := no d11 n7
      exact wpOp_value (v := .slice (some ⟨w.heap.size, 0, none⟩) 0 0) (w' := w.alloc (.cells #[] 22)) ho e4 (by simp [execOp, e3, run_build0]) (by rw [e2]; exact go rfl (ChainR.init hw hd ⟨n4, n7, n11, no d12 n11⟩ (by decide) (by decide)) trivial)
    · obtain ⟨o', e1, e2, e3, e4, e5⟩ := o1
      obtain rfl := Option.some.inj (ho.symm.trans e1)
      have dp := dep_of' e5 hdep
      have hd : 132 < a.tmps.size := by rw [hz]; exact Nat.lt_of_lt_of_le (by decide) hs
      have U12 : a.tmps.getD 12 undef = .slice (some x) n c := (kp 12 (by decide)).trans u_12
      exact wpOp_value (v := .slice (some x) n c) (w' := w) ho e4 (by simp [execOp, e3, ev, U12]) (by rw [e2]; exact go rfl (hw.pure hd (by decide) (by decide)) rfl)
    · obtain ⟨o', e1, e2, e3, e4, e5⟩ := o2
      obtain rfl := Option.some.inj (ho.symm.trans e1)
      have dp := dep_of' e5 hdep
      have hd : 133 < a.tmps.size := by rw [hz]; exact Nat.lt_of_lt_of_le (by decide) hs
      have U18 : a.tmps.getD 18 undef = .int .i64 j := (kp 18 (by decide)).trans u_18
      exact wpOp_value (v := .int .i64 j) (w' := w) ho e4 (by simp [execOp, e3, ev, U18]) (by rw [e2]; exact go rfl (hw.pure hd (by decide) (by decide)) rfl)
    · obtain ⟨o', e1, e2, e3, e4, e5⟩ := o3
      obtain rfl := Option.some.inj (ho.symm.trans e1)
      have dp := dep_of' e5 hdep
      have hd : 134 < a.tmps.size := by rw [hz]; exact Nat.lt_of_lt_of_le (by decide) hs
      have V1 : a.tmps.getD 132 undef = .slice (some x) n c := hI.val 1 132 (by decide) rfl (dp 1 (by decide))
      have V2 : a.tmps.getD 133 undef = .int .i64 j := hI.val 2 133 (by decide) rfl (dp 2 (by decide))
      exact wpOp_value (v := .slice (some x) j c) (w' := w) ho e4 (by simp [execOp, e3, ev, V1, V2, x3 w]) (by rw [e2]; exact go rfl (hw.pure hd (by decide) (by decide)) rfl)
    · obtain ⟨o', e1, e2, e3, e4, e5⟩ := o4
      obtain rfl := Option.some.inj (ho.symm.trans e1)
      have dp := dep_of' e5 hdep
      have hd : 135 < a.tmps.size := by rw [hz]; exact Nat.lt_of_lt_of_le (by decide) hs
      have V3 : a.tmps.getD 134 undef = .slice (some x) j c := hI.val 3 134 (by decide) rfl (dp 3 (by decide))
      have n7 := no d7 hl
      have n11 := no d11 n7
      obtain ⟨v', w', hr, hR⟩ := ChainR.app1 hw hd (dp 0 (by decide)) ⟨hl, n7, n11, no d12 n11⟩ (by decide) (by decide) (ad := x) c hX1 (c1 w hbw) k1 (by omega) o.type
      obtain ⟨G, hG⟩ : ∃ G, a.tmps.getD 131 undef = G := ⟨_, rfl⟩
      rw [hG] at hr
      exact wpOp_value (v := v') (w' := w') ho e4 (by simp [execOp, e3, resolve, invoke, builtin, ev, V3, hG, hr]) (by rw [e2]; exact go rfl hR trivial)
    · obtain ⟨o', e1, e2, e3, e4, e5⟩ := o5
      obtain rfl := Option.some.inj (ho.symm.trans e1)
      have dp := dep_of' e5 hdep
      have hd : 136 < a.tmps.size := by rw [hz]; exact Nat.lt_of_lt_of_le (by decide) hs
      have U2 : a.tmps.getD 2 undef = .slice sa sl sc := (kp 2 (by decide)).trans u_2
      exact wpOp_value (v := .slice sa sl sc) (w' := w) ho e4 (by simp [execOp, e3, ev, U2]) (by rw [e2]; exact go rfl (hw.pure hd (by decide) (by decide)) rfl)
    · obtain ⟨o', e1, e2, e3, e4, e5⟩ := o6
      obtain rfl := Option.some.inj (ho.symm.trans e1)
      have dp := dep_of' e5 hdep
      have hd : 137 < a.tmps.size := by rw [hz]; exact Nat.lt_of_lt_of_le (by decide) hs
      have V5 : a.tmps.getD 136 undef = .slice sa sl sc := hI.val 5 136 (by decide) rfl (dp 5 (by decide))
      exact wpOp_value (v := .slice (some ⟨w.heap.size, 0, none⟩) 1 1) (w' := w.alloc (.cells #[.slice sa sl sc] 22)) ho e4 (by simp [execOp, e3, ev, V5, run_build23]) (by rw [e2]; exact go rfl (ChainR.lit hw hd (by decide) (by decide)) trivial)
    · obtain ⟨o', e1, e2, e3, e4, e5⟩ := o7
      obtain rfl := Option.some.inj (ho.symm.trans e1)
      have dp := dep_of' e5 hdep
      have hd : 138 < a.tmps.size := by rw [hz]; exact Nat.lt_of_lt_of_le (by decide) hs
      have n11 := no d11 hl
      obtain ⟨g, v', w', ht, hr, hR⟩ := ChainR.app2 hw hd (dp 4 (by decide)) (dp 6 (by decide)) ⟨hl, n11, no d12 n11⟩ (by decide) (by decide) rfl (by omega) o.type
      obtain ⟨G, hG⟩ : ∃ G, a.tmps.getD 135 undef = G := ⟨_, rfl⟩
      rw [hG] at hr
      exact wpOp_value (v := v') (w' := w') ho e4 (by simp [execOp, e3, resolve, invoke, builtin, ev, ht, hG, hr]) (by rw [e2]; exact go rfl hR trivial)
    · obtain ⟨o', e1, e2, e3, e4, e5⟩ := o8
      obtain rfl := Option.some.inj (ho.symm.trans e1)
      have dp := dep_of' e5 hdep
      have hd : 139 < a.tmps.size := by rw [hz]; exact Nat.lt_of_lt_of_le (by decide) hs
      have U12 : a.tmps.getD 12 undef = .slice (some x) n c := (kp 12 (by decide)).trans u_12
      exact wpOp_value (v := .slice (some x) n c) (w' := w) ho e4 (by simp [execOp, e3, ev, U12]) (by rw [e2]; exact go rfl (hw.pure hd (by decide) (by decide)) rfl)
    · obtain ⟨o', e1, e2, e3, e4, e5⟩ := o9
      obtain rfl := Option.some.inj (ho.symm.trans e1)
      have dp := dep_of' e5 hdep
      have hd : 140 < a.tmps.size := by rw [hz]; exact Nat.lt_of_lt_of_le (by decide) hs
      have U18 : a.tmps.getD 18 undef = .int .i64 j := (kp 18 (by decide)).trans u_18
      exact wpOp_value (v := .int .i64 j) (w' := w) ho e4 (by simp [execOp, e3, ev, U18]) (by rw [e2]; exact go rfl (hw.pure hd (by decide) (by decide)) rfl)
    · obtain ⟨o', e1, e2, e3, e4, e5⟩ := o10
      obtain rfl := Option.some.inj (ho.symm.trans e1)
      have dp := dep_of' e5 hdep
      have hd : 141 < a.tmps.size := by rw [hz]; exact Nat.lt_of_lt_of_le (by decide) hs
      have V8 : a.tmps.getD 139 undef = .slice (some x) n c := hI.val 8 139 (by decide) rfl (dp 8 (by decide))
      have V9 : a.tmps.getD 140 undef = .int .i64 j := hI.val 9 140 (by decide) rfl (dp 9 (by decide))
      exact wpOp_value (v := .slice (some X) (n - j) (c - j)) (w' := w) ho e4 (by simp [execOp, e3, ev, V8, V9, x10 w]) (by rw [e2]; exact go rfl (hw.pure hd (by decide) (by decide)) rfl)
    · obtain ⟨o', e1, e2, e3, e4, e5⟩ := o11
      obtain rfl := Option.some.inj (ho.symm.trans e1)
      have dp := dep_of' e5 hdep
      have hd : 142 < a.tmps.size := by rw [hz]; exact Nat.lt_of_lt_of_le (by decide) hs
      have V10 : a.tmps.getD 141 undef = .slice (some X) (n - j) (c - j) := hI.val 10 141 (by decide) rfl (dp 10 (by decide))
      have y7 := dp 7 (by decide)
      obtain ⟨v', w', hr, hR⟩ := ChainR.app3 hw hd (d7 y7) y7 ⟨hl, no d12 hl⟩ (by decide) (by decide) (ad := X) (c - j) hX3 (c3 w hbw) k3 (by omega) o.type
      obtain ⟨G, hG⟩ : ∃ G, a.tmps.getD 138 undef = G := ⟨_, rfl⟩
      rw [hG] at hr
      exact wpOp_value (v := v') (w' := w') ho e4 (by simp [execOp, e3, resolve, invoke, builtin, ev, V10, hG, hr]) (by rw [e2]; exact go rfl hR trivial)
    · obtain ⟨o', e1, e2, e3, e4, e5⟩ := o12
      obtain rfl := Option.some.inj (ho.symm.trans e1)
      have dp := dep_of' e5 hdep
      have hd : 20 < a.tmps.size := by rw [hz]; exact Nat.lt_of_lt_of_le (by decide) hs
      exact wpOp_value (v := a.tmps.getD 142 undef) (w' := w) ho e4 (by simp [execOp, e3, ev]) (by rw [e2]; exact go rfl (ChainR.end_ hw hd (dp 11 (by decide)) (by decide) (by decide)) trivial)
  · intro l a w hall hI
    have all : ∀ j, j < 13 → l j = true := fun j hj => hall j (by rw [hsz]; exact hj)
    obtain ⟨v, h1, h2, h3, h4, h5, h6⟩ := hI.world
    simp only [all 4 (by decide), all 7 (by decide), all 11 (by decide), if_true] at h3
    exact fin a w v hI.size hI.defers hI.kept h1 h3 (h6 (all 12 (by decide)))

end Go.Proofs.Ythbddbipmoflfaa
