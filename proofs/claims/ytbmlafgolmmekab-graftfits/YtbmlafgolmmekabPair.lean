/- The region of Same that copies two layers side by side. -/
import Derived.Test.YtbmlafgolmmekabRows
import Derived.Test.YtbmlafgolmmekabView
import Derived.Test.YtbmlafgolmmekabOwn
import Derived.Test.YtbmlafgolmmekabCfg
import Derived.Test.YtbmlafgolmmekabCfgs
import Derived.Test.YtbmlafgolmmekabCfgRef
import Derived.Test.YtbmlafgolmmekabHeld
import Derived.Test.YtbmlafgolmmekabReader
import Derived.Test.YtbmlafgolmmekabSls
import Derived.Test.YtbmlafgolmmekabSteps
import Derived.Test.YtbmlafgolmmekabInv
import Derived.Test.YtbmlafgolmmekabTyped
import Derived.Test.YtbmlafgolmmekabAds
import Derived.Test.YtbmlafgolmmekabRanges
import Derived.Test.YtbmlafgolmmekabPush
import Derived.WalkKit
import Derived.ProofKit
import Derived.OpenShut
import Derived.Below
import Derived.WalkLawsBesides
import Derived.Deep.QuietTactic
import Derived.BigQuiet
import Derived.Lib.QuietBelow
import Derived.Deep.RegionHeld3
import Derived.Orders
import Derived.ArgAppend
import Derived.Maps.AppendAt
namespace Go.Proofs.Ytbmlafgolmmekab
open Go.ChangeShapes Go.WideShapes Go.ChangeAt Go.RowKit
open Go.Sort hiding Below
set_option linter.unusedVariables false


theorem run_ad2 (b : Nat) (w : World) : (Instr.fieldAt 24 (.pointer (some ⟨b, 0, none⟩)) 2).run Try.prog w = .ok (.pointer (some ⟨b, 2, none⟩)) w := by go_simp
theorem run_load22 {w : World} {p : Addr} {a : Option Addr} {n c : Nat} (h : w.cell? p = some (.slice a n c)) : (Instr.loadAt 22 (.pointer (some p))).run Try.prog w = .ok (.slice a n c) w := by go_simp
theorem run_idx22 (x : Addr) (n c k : Nat) (hk : k < n) (hn : n ≤ 4611686018427387904) (w : World) : (Instr.indexAt 22 (.slice (some x) n c) (.int .i64 (k : Int))).run Try.prog w = .ok (.pointer (some (x.add (k * 4)))) w := by
  have h1 : (k : Int) < (n : Int) := by omega
  have h2 : (0 : Int) ≤ (k : Int) := by omega
  go_simp
theorem run_load47 {w : World} {p : Addr} {y : Nat → SL} (h : w.cell? p = some (.slice (y 0).a (y 0).n (y 0).c) ∧ w.cell? ⟨p.block, p.off + 1, none⟩ = some (.slice (y 1).a (y 1).n (y 1).c) ∧ w.cell? ⟨p.block, p.off + 2, none⟩ = some (.slice (y 2).a (y 2).n (y 2).c) ∧ w.cell? ⟨p.block, p.off + 3, none⟩ = some (.slice (y 3).a (y 3).n (y 3).c)) :
    (Instr.loadAt 47 (.pointer (some p))).run Try.prog w = .ok (.agg #[.slice (y 0).a (y 0).n (y 0).c, .slice (y 1).a (y 1).n (y 1).c, .slice (y 2).a (y 2).n (y 2).c, .slice (y 3).a (y 3).n (y 3).c]) w := by
  obtain ⟨h0, h1, h2, h3⟩ := h
  go_simp
theorem run_alloc52 (w : World) : (Instr.alloc 47 true (.tuple #[])).run Try.prog w = .ok (.pointer (some ⟨w.heap.size, 0, none⟩)) (w.alloc (.cells #[nilS, nilS, nilS, nilS] 47)) := by go_simp
theorem run_store47 {w : World} {b : Nat} (q : Blk 47 w b #[nilS, nilS, nilS, nilS]) (y : Nat → SL) : ∃ w', (Instr.storeAt 47 (.pointer (some ⟨b, 0, none⟩)) (.agg #[.slice (y 0).a (y 0).n (y 0).c, .slice (y 1).a (y 1).n (y 1).c, .slice (y 2).a (y 2).n (y 2).c, .slice (y 3).a (y 3).n (y 3).c])).run Try.prog w = .ok () w' ∧ Blk 47 w' b #[.slice (y 0).a (y 0).n (y 0).c, .slice (y 1).a (y 1).n (y 1).c, .slice (y 2).a (y 2).n (y 2).c, .slice (y 3).a (y 3).n (y 3).c] ∧ Only b w w' := by
  obtain ⟨z0, z1, z2, z3⟩ := q.c4
  obtain ⟨o0, o1, o2, o3⟩ := q.o4
  have q0 : Blk 47 (w.setCell ⟨b, 0, none⟩ (.slice (y 0).a (y 0).n (y 0).c)) b #[.slice (y 0).a (y 0).n (y 0).c, nilS, nilS, nilS] := set_blk q 0 _ rfl
  have q1 := set_blk q0 1 (.slice (y 1).a (y 1).n (y 1).c) rfl
  have q2 := set_blk q1 2 (.slice (y 2).a (y 2).n (y 2).c) rfl
  have q3 := set_blk q2 3 (.slice (y 3).a (y 3).n (y 3).c) rfl
  have on := (((Only.set b 0 w (.slice (y 0).a (y 0).n (y 0).c)).trans (Only.set b 1 _ (.slice (y 1).a (y 1).n (y 1).c))).trans (Only.set b 2 _ (.slice (y 2).a (y 2).n (y 2).c))).trans (Only.set b 3 _ (.slice (y 3).a (y 3).n (y 3).c))
  refine ⟨_, ?_, q3, on⟩
  clear q0 q1 q2 q3 on q
  go_simp

def pairD (i : Nat) : Option Nat := if i < 10 then some (36 + i) else if i = 10 then some 6 else if i = 11 then some 7 else none
theorem pairD_inj {i j d : Nat} (h1 : pairD i = some d) (h2 : pairD j = some d) : i = j := by
  unfold pairD at h1 h2
  repeat' split at h1
  all_goals (repeat' split at h2)
  all_goals first | (simp at h2; done) | (simp at h1; done) | (simp at h1 h2; omega)
theorem pairD_ne {i s : Nat} (h : s ≠ 6 ∧ s ≠ 7 ∧ (s < 36 ∨ 46 ≤ s)) : pairD i ≠ some s := by
  intro e
  unfold pairD at e
  repeat' split at e
  all_goals first | (simp at e; done) | (simp at e; omega)

def pairV (ab bb k n c c' : Nat) (x0 x1 : Addr) (ya yb : Nat → SL) (i : Nat) (v : Value) : Prop :=
  match i with
  | 0 => v = .pointer (some ⟨ab, 2, none⟩)
  | 1 => v = .slice (some x0) n c
  | 2 => v = .int .i64 (k : Int)
  | 3 => v = .pointer (some (x0.add (k * 4)))
  | 4 => v = .agg #[.slice (ya 0).a (ya 0).n (ya 0).c, .slice (ya 1).a (ya 1).n (ya 1).c, .slice (ya 2).a (ya 2).n (ya 2).c, .slice (ya 3).a (ya 3).n (ya 3).c]
  | 5 => v = .pointer (some ⟨bb, 2, none⟩)
  | 6 => v = .slice (some x1) n c'
  | 7 => v = .int .i64 (k : Int)
  | 8 => v = .pointer (some (x1.add (k * 4)))
  | 9 => v = .agg #[.slice (yb 0).a (yb 0).n (yb 0).c, .slice (yb 1).a (yb 1).n (yb 1).c, .slice (yb 2).a (yb 2).n (yb 2).c, .slice (yb 3).a (yb 3).n (yb 3).c]
  | _ => True

/-- two layers are copied side by side -/
def pairR (w0 : World) (ya yb : Nat → SL) (l : Nat → Bool) (a : Act) (w : World) : Prop := Below w0.heap.size w0 w ∧ ∃ G H : Nat, (l 10 = true → a.tmps.getD 6 undef = .pointer (some ⟨G, 0, none⟩) ∧ w0.heap.size ≤ G ∧ Blk 47 w G (cond (l 12) #[.slice (ya 0).a (ya 0).n (ya 0).c, .slice (ya 1).a (ya 1).n (ya 1).c, .slice (ya 2).a (ya 2).n (ya 2).c, .slice (ya 3).a (ya 3).n (ya 3).c] #[nilS, nilS, nilS, nilS])) ∧
  (l 11 = true → a.tmps.getD 7 undef = .pointer (some ⟨H, 0, none⟩) ∧ w0.heap.size ≤ H ∧ Blk 47 w H (cond (l 13) #[.slice (yb 0).a (yb 0).n (yb 0).c, .slice (yb 1).a (yb 1).n (yb 1).c, .slice (yb 2).a (yb 2).n (yb 2).c, .slice (yb 3).a (yb 3).n (yb 3).c] #[nilS, nilS, nilS, nilS])) ∧ (l 10 = true → l 11 = true → G ≠ H)

set_option maxHeartbeats 2000000 in
theorem pair_region {id : Nat} {ops : Array Oper} {Q : Exit → Act → World → Prop} {a0 : Act} {w0 : World} (ab bb k n c c' : Nat) (x0 x1 : Addr) (ya yb : Nat → SL) (hlow : lowB ops = true) (hsz : ops.size = 14)
    (o0 : OpAt ops 0 (some 36) (.fieldAddr 24 (.tmp 2) 2) [])
    (o1 : OpAt ops 1 (some 37) (.load 22 (.tmp 36)) [0])
    (o2 : OpAt ops 2 (some 38) (.move (.tmp 5)) [])
    (o3 : OpAt ops 3 (some 39) (.indexAddr 22 (.tmp 37) (.tmp 38)) [1, 2])
    (o4 : OpAt ops 4 (some 40) (.load 47 (.tmp 39)) [3])
    (o5 : OpAt ops 5 (some 41) (.fieldAddr 24 (.tmp 3) 2) [])
    (o6 : OpAt ops 6 (some 42) (.load 22 (.tmp 41)) [5])
    (o7 : OpAt ops 7 (some 43) (.move (.tmp 5)) [])
    (o8 : OpAt ops 8 (some 44) (.indexAddr 22 (.tmp 42) (.tmp 43)) [6, 7])
    (o9 : OpAt ops 9 (some 45) (.load 47 (.tmp 44)) [8])
    (o10 : OpAt ops 10 (some 6) (.alloc 47) [])
    (o11 : OpAt ops 11 (some 7) (.alloc 47) [])
    (o12 : OpAt ops 12 none (.store 47 (.tmp 6) (.tmp 40)) [4, 10])
    (o13 : OpAt ops 13 none (.store 47 (.tmp 7) (.tmp 45)) [9, 11])
    (h2 : a0.tmps.getD 2 undef = .pointer (some ⟨ab, 0, none⟩)) (h3 : a0.tmps.getD 3 undef = .pointer (some ⟨bb, 0, none⟩)) (h5 : a0.tmps.getD 5 undef = .int .i64 (k : Int)) (hN : 46 ≤ a0.tmps.size) (hk : k < n) (hn : n ≤ 4611686018427387904)
    (ca0 : w0.cell? ⟨ab, 2, none⟩ = some (.slice (some x0) n c)) (cb0 : w0.cell? ⟨bb, 2, none⟩ = some (.slice (some x1) n c'))
    (pa0 : ∀ j, j < 4 → w0.cell? ((x0.add (k * 4)).add j) = some (ya j).v) (pb0 : ∀ j, j < 4 → w0.cell? ((x1.add (k * 4)).add j) = some (yb j).v)
    (fin : ∀ a w (G H : Nat), a.tmps.size = a0.tmps.size → a.defers = a0.defers → (∀ s, s ≠ 6 ∧ s ≠ 7 ∧ (s < 36 ∨ 46 ≤ s) → a.tmps.getD s undef = a0.tmps.getD s undef) → Below w0.heap.size w0 w → a.tmps.getD 6 undef = .pointer (some ⟨G, 0, none⟩) → a.tmps.getD 7 undef = .pointer (some ⟨H, 0, none⟩) → Blk 47 w G #[.slice (ya 0).a (ya 0).n (ya 0).c, .slice (ya 1).a (ya 1).n (ya 1).c, .slice (ya 2).a (ya 2).n (ya 2).c, .slice (ya 3).a (ya 3).n (ya 3).c] → Blk 47 w H #[.slice (yb 0).a (yb 0).n (yb 0).c, .slice (yb 1).a (yb 1).n (yb 1).c, .slice (yb 2).a (yb 2).n (yb 2).c, .slice (yb 3).a (yb 3).n (yb 3).c] → Q .normal a w) :
    (Code.region id ops true).wp Try.prog Q a0 w0 := by
  refine wp_region_inv2 (by kernel_rfl) hlow (Inv 14 pairD a0 (pairR w0 ya yb) (fun _ i v _ => pairV ab bb k n c c' x0 x1 ya yb i v)) (Inv.start ⟨⟨rfl, rfl, rfl, Nat.le_refl _, fun _ _ => rfl⟩, 0, 0, (fun h => by cases h), (fun h => by cases h), (fun h => by cases h)⟩) ?_ ?_
  · intro l i o a w ho hl hcl hdep hI
    have hi : i < 14 := by rw [← hsz]; exact (Array.getElem?_eq_some_iff.1 ho).1
    obtain ⟨hw, G, H, hG, hH, hne⟩ := hI.world
    have ev : ∀ (s : Nat), a.eval (.tmp s) = a.tmps.getD s undef := fun _ => rfl
    have s2 := (hI.kept 2 (fun j _ => pairD_ne (by omega))).trans h2
    have s3 := (hI.kept 3 (fun j _ => pairD_ne (by omega))).trans h3
    have s5 := (hI.kept 5 (fun j _ => pairD_ne (by omega))).trans h5
    have cel : ∀ p v, w0.cell? p = some v → w.cell? p = some v := fun p v hp => (hw.cell (World.block_lt_of_cell? _ _ hp)).trans hp
    have ca := cel _ _ ca0
    have cb := cel _ _ cb0
    have pa : w.cell? (x0.add (k * 4)) = some (.slice (ya 0).a (ya 0).n (ya 0).c) ∧ w.cell? ⟨(x0.add (k * 4)).block, (x0.add (k * 4)).off + 1, none⟩ = some (.slice (ya 1).a (ya 1).n (ya 1).c) ∧ w.cell? ⟨(x0.add (k * 4)).block, (x0.add (k * 4)).off + 2, none⟩ = some (.slice (ya 2).a (ya 2).n (ya 2).c) ∧ w.cell? ⟨(x0.add (k * 4)).block, (x0.add (k * 4)).off + 3, none⟩ = some (.slice (ya 3).a (ya 3).n (ya 3).c) :=
      ⟨cel _ _ (pa0 0 (by decide)), cel _ _ (pa0 1 (by decide)), cel _ _ (pa0 2 (by decide)), cel _ _ (pa0 3 (by decide))⟩
    have pb : w.cell? (x1.add (k * 4)) = some (.slice (yb 0).a (yb 0).n (yb 0).c) ∧ w.cell? ⟨(x1.add (k * 4)).block, (x1.add (k * 4)).off + 1, none⟩ = some (.slice (yb 1).a (yb 1).n (yb 1).c) ∧ w.cell? ⟨(x1.add (k * 4)).block, (x1.add (k * 4)).off + 2, none⟩ = some (.slice (yb 2).a (yb 2).n (yb 2).c) ∧ w.cell? ⟨(x1.add (k * 4)).block, (x1.add (k * 4)).off + 3, none⟩ = some (.slice (yb 3).a (yb 3).n (yb 3).c) :=
      ⟨cel _ _ (pb0 0 (by decide)), cel _ _ (pb0 1 (by decide)), cel _ _ (pb0 2 (by decide)), cel _ _ (pb0 3 (by decide))⟩
    have inj : ∀ d, pairD i = some d → ∀ j d', j < 14 → pairD j = some d' → j ≠ i → d' ≠ d := fun d hd j d' hj hd' hne e => hne (pairD_inj (by rw [hd', e]) hd)
    have get : ∀ (d : Nat) (v : Value) (s : Nat), d < 46 → s ≠ d → (a.put (some d) v).tmps.getD s undef = a.tmps.getD s undef := fun d v s hd hs => by
      rw [get_put a d v s (by rw [hI.size]; exact Nat.lt_of_lt_of_le hd hN), if_neg hs]
    have oth : ∀ j, j ≠ i → (l j || j == i) = l j := fun j hj => by rw [show (j == i) = false by simp [hj], Bool.or_false]
    have pure_ : ∀ {v : Value}, i < 10 → pairV ab bb k n c c' x0 x1 ya yb i v → Inv 14 pairD a0 (pairR w0 ya yb) (fun _ i v _ => pairV ab bb k n c c' x0 x1 ya yb i v) (fun j => l j || j == i) (a.put (some (36 + i)) v) w := by
      intro v hi' hv
      have hD : pairD i = some (36 + i) := by unfold pairD; rw [if_pos hi']
      have t46 : 36 + i < 46 := by omega
      refine hI.put hi hD (Nat.lt_of_lt_of_le t46 hN) (inj _ hD) ⟨hw, G, H, fun h => ?_, fun h => ?_, fun h h' => ?_⟩ hv (fun j u _ _ _ hf => hf)
      · dsimp only at h ⊢
        rw [oth 10 (by omega)] at h
        rw [oth 12 (by omega), get (36 + i) v 6 t46 (by omega)]
        exact hG h
      · dsimp only at h ⊢
        rw [oth 11 (by omega)] at h
        rw [oth 13 (by omega), get (36 + i) v 7 t46 (by omega)]
        exact hH h
      · dsimp only at h h'
        rw [oth 10 (by omega)] at h
        rw [oth 11 (by omega)] at h'
        exact hne h h'
    rcases (show i = 0 ∨ i = 1 ∨ i = 2 ∨ i = 3 ∨ i = 4 ∨ i = 5 ∨ i = 6 ∨ i = 7 ∨ i = 8 ∨ i = 9 ∨ i = 10 ∨ i = 11 ∨ i = 12 ∨ i = 13 by omega) with rfl | rfl | rfl | rfl | rfl | rfl | rfl | rfl | rfl | rfl | rfl | rfl | rfl | rfl
    · obtain ⟨o', e1, e2, e3, e4, e5⟩ := o0
      obtain rfl := Option.some.inj (ho.symm.trans e1)
      have dp := dep_of' e5 hdep
      refine wpOp_value (v := .pointer (some ⟨ab, 2, none⟩)) (w' := w) ho e4 (by simp [execOp, e3, ev, s2, run_ad2]) (by rw [e2]; exact pure_ (by decide) rfl)
    · obtain ⟨o', e1, e2, e3, e4, e5⟩ := o1
      obtain rfl := Option.some.inj (ho.symm.trans e1)
      have dp := dep_of' e5 hdep
      have V0 : a.tmps.getD 36 undef = .pointer (some ⟨ab, 2, none⟩) := hI.val 0 36 (by decide) rfl (dp 0 (by decide))
      refine wpOp_value (v := .slice (some x0) n c) (w' := w) ho e4 (by simp [execOp, e3, ev, V0, run_load22 ca]) (by rw [e2]; exact pure_ (by decide) rfl)
    · obtain ⟨o', e1, e2, e3, e4, e5⟩ := o2
      obtain rfl := Option.some.inj (ho.symm.trans e1)
      have dp := dep_of' e5 hdep
      refine wpOp_value (v := .int .i64 (k : Int)) (w' := w) ho e4 (by simp [execOp, e3, ev, s5]) (by rw [e2]; exact pure_ (by decide) rfl)
    · obtain ⟨o', e1, e2, e3, e4, e5⟩ := o3
      obtain rfl := Option.some.inj (ho.symm.trans e1)
      have dp := dep_of' e5 hdep
      have V1 : a.tmps.getD 37 undef = .slice (some x0) n c := hI.val 1 37 (by decide) rfl (dp 1 (by decide))
      have V2 : a.tmps.getD 38 undef = .int .i64 (k : Int) := hI.val 2 38 (by decide) rfl (dp 2 (by decide))
      refine wpOp_value (v := .pointer (some (x0.add (k * 4)))) (w' := w) ho e4 (by simp [execOp, e3, ev, V1, V2, run_idx22 x0 n c k hk hn]) (by rw [e2]; exact pure_ (by decide) rfl)
    · obtain ⟨o', e1, e2, e3, e4, e5⟩ := o4
      obtain rfl := Option.some.inj (ho.symm.trans e1)
      have dp := dep_of' e5 hdep
      have V3 : a.tmps.getD 39 undef = .pointer (some (x0.add (k * 4))) := hI.val 3 39 (by decide) rfl (dp 3 (by decide))
      refine wpOp_value (v := .agg #[.slice (ya 0).a (ya 0).n (ya 0).c, .slice (ya 1).a (ya 1).n (ya 1).c, .slice (ya 2).a (ya 2).n (ya 2).c, .slice (ya 3).a (ya 3).n (ya 3).c]) (w' := w) ho e4 (by simp [execOp, e3, ev, V3, run_load47 pa]) (by rw [e2]; exact pure_ (by decide) rfl)
    · obtain ⟨o', e1, e2, e3, e4, e5⟩ := o5
      obtain rfl := Option.some.inj (ho.symm.trans e1)
      have dp := dep_of' e5 hdep
      refine wpOp_value (v := .pointer (some ⟨bb, 2, none⟩)) (w' := w) ho e4 (by simp [execOp, e3, ev, s3, run_ad2]) (by rw [e2]; exact pure_ (by decide) rfl)
    · obtain ⟨o', e1, e2, e3, e4, e5⟩ := o6
      obtain rfl := Option.some.inj (ho.symm.trans e1)
      have dp := dep_of' e5 hdep
      have V5 : a.tmps.getD 41 undef = .pointer (some ⟨bb, 2, none⟩) := hI.val 5 41 (by decide) rfl (dp 5 (by decide))
      refine wpOp_value (v := .slice (some x1) n c') (w' := w) ho e4 (by simp [execOp, e3, ev, V5, run_load22 cb]) (by rw [e2]; exact pure_ (by decide) rfl)
    · obtain ⟨o', e1, e2, e3, e4, e5⟩ := o7
      obtain rfl := Option.some.inj (ho.symm.trans e1)
      have dp := dep_of' e5 hdep
      refine wpOp_value (v := .int .i64 (k : Int)) (w' := w) ho e4 (by simp [execOp, e3, ev, s5]) (by rw [e2]; exact pure_ (by decide) rfl)
    · obtain ⟨o', e1, e2, e3, e4, e5⟩ := o8
      obtain rfl := Option.some.inj (ho.symm.trans e1)
      have dp := dep_of' e5 hdep
      have V6 : a.tmps.getD 42 undef = .slice (some x1) n c' := hI.val 6 42 (by decide) rfl (dp 6 (by decide))
      have V7 : a.tmps.getD 43 undef = .int .i64 (k : Int) := hI.val 7 43 (by decide) rfl (dp 7 (by decide))
      refine wpOp_value (v := .pointer (some (x1.add (k * 4)))) (w' := w) ho e4 (by simp [execOp, e3, ev, V6, V7, run_idx22 x1 n c' k hk hn]) (by rw [e2]; exact pure_ (by decide) rfl)
    · obtain ⟨o', e1, e2, e3, e4, e5⟩ := o9
      obtain rfl := Option.some.inj (ho.symm.trans e1)
      have dp := dep_of' e5 hdep
      have V8 : a.tmps.getD 44 undef = .pointer (some (x1.add (k * 4))) := hI.val 8 44 (by decide) rfl (dp 8 (by decide))
      refine wpOp_value (v := .agg #[.slice (yb 0).a (yb 0).n (yb 0).c, .slice (yb 1).a (yb 1).n (yb 1).c, .slice (yb 2).a (yb 2).n (yb 2).c, .slice (yb 3).a (yb 3).n (yb 3).c]) (w' := w) ho e4 (by simp [execOp, e3, ev, V8, run_load47 pb]) (by rw [e2]; exact pure_ (by decide) rfl)
    · obtain ⟨o', e1, e2, e3, e4, e5⟩ := o10
      obtain rfl := Option.some.inj (ho.symm.trans e1)
      have l12 : l 12 = false := by
        cases e : l 12 with
        | false => rfl
        | true => rw [hcl.dep o12 e 10 (by simp)] at hl; cases hl
      refine wpOp_value (v := .pointer (some ⟨w.heap.size, 0, none⟩)) (w' := w.alloc (.cells #[nilS, nilS, nilS, nilS] 47)) ho e4 (by simp [execOp, e3, run_alloc52]) ?_
      rw [e2]
      have b1 := below_new (Below.refl w.heap.size w) (.cells #[nilS, nilS, nilS, nilS] 47)
      refine hI.put hi rfl (Nat.lt_of_lt_of_le (by decide) hN) (inj 6 rfl) ⟨below_then hw b1, w.heap.size, H, fun _ => ⟨?_, hw.size, ?_⟩, fun h => ?_, fun _ h => ?_⟩ trivial (fun j u _ _ _ hf => hf)
      · rw [get_put a 6 _ 6 (by rw [hI.size]; exact Nat.lt_of_lt_of_le (by decide) hN), if_pos rfl]
      · dsimp only
        rw [oth 12 (by decide), l12]
        exact Blk.new 47 w _
      · dsimp only at h ⊢
        rw [oth 11 (by decide)] at h
        rw [oth 13 (by decide), get 6 _ 7 (by decide) (by decide)]
        exact ⟨(hH h).1, (hH h).2.1, (hH h).2.2.kept b1⟩
      · dsimp only at h
        rw [oth 11 (by decide)] at h
        have := (hH h).2.2.lt
        omega
    · obtain ⟨o', e1, e2, e3, e4, e5⟩ := o11
      obtain rfl := Option.some.inj (ho.symm.trans e1)
      have l13 : l 13 = false := by
        cases e : l 13 with
        | false => rfl
        | true => rw [hcl.dep o13 e 11 (by simp)] at hl; cases hl
      refine wpOp_value (v := .pointer (some ⟨w.heap.size, 0, none⟩)) (w' := w.alloc (.cells #[nilS, nilS, nilS, nilS] 47)) ho e4 (by simp [execOp, e3, run_alloc52]) ?_
      rw [e2]
      have b1 := below_new (Below.refl w.heap.size w) (.cells #[nilS, nilS, nilS, nilS] 47)
      refine hI.put hi rfl (Nat.lt_of_lt_of_le (by decide) hN) (inj 7 rfl) ⟨below_then hw b1, G, w.heap.size, fun h => ?_, fun _ => ⟨?_, hw.size, ?_⟩, fun h _ => ?_⟩ trivial (fun j u _ _ _ hf => hf)
      · dsimp only at h ⊢
        rw [oth 10 (by decide)] at h
        rw [oth 12 (by decide), get 7 _ 6 (by decide) (by decide)]
        exact ⟨(hG h).1, (hG h).2.1, (hG h).2.2.kept b1⟩
      · rw [get_put a 7 _ 7 (by rw [hI.size]; exact Nat.lt_of_lt_of_le (by decide) hN), if_pos rfl]
      · dsimp only
        rw [oth 13 (by decide), l13]
        exact Blk.new 47 w _
      · dsimp only at h
        rw [oth 10 (by decide)] at h
        have := (hG h).2.2.lt
        omega
    · obtain ⟨o', e1, e2, e3, e4, e5⟩ := o12
      obtain rfl := Option.some.inj (ho.symm.trans e1)
      have dp := dep_of' e5 hdep
      have V4 : a.tmps.getD 40 undef = .agg #[.slice (ya 0).a (ya 0).n (ya 0).c, .slice (ya 1).a (ya 1).n (ya 1).c, .slice (ya 2).a (ya 2).n (ya 2).c, .slice (ya 3).a (ya 3).n (ya 3).c] := hI.val 4 40 (by decide) rfl (dp 4 (by decide))
      have l10 := dp 10 (by decide)
      obtain ⟨g1, g2, g3⟩ := hG l10
      rw [hl] at g3
      obtain ⟨w', hrn, q', on⟩ := run_store47 g3 ya
      refine wpOp_skip (w' := w') ho e4 (by simp [execOp, e3, ev, g1, V4, hrn]) ?_
      rw [e2]
      refine hI.none_ rfl ⟨Only.below hw g2 hw.size on, G, H, fun h => ⟨g1, g2, by rw [show ((fun j => l j || j == 12) 12) = true by simp]; exact q'⟩, fun h => ?_, fun h h' => hne l10 (by dsimp only at h'; rw [oth 11 (by decide)] at h'; exact h')⟩ (fun j u _ _ _ hf => hf)
      dsimp only at h ⊢
      rw [oth 11 (by decide)] at h
      rw [oth 13 (by decide)]
      exact ⟨(hH h).1, (hH h).2.1, (on.block H (hH h).2.2.lt (fun e => hne l10 h (Option.some.inj e).symm)).trans (hH h).2.2⟩
    · obtain ⟨o', e1, e2, e3, e4, e5⟩ := o13
      obtain rfl := Option.some.inj (ho.symm.trans e1)
      have dp := dep_of' e5 hdep
      have V9 : a.tmps.getD 45 undef = .agg #[.slice (yb 0).a (yb 0).n (yb 0).c, .slice (yb 1).a (yb 1).n (yb 1).c, .slice (yb 2).a (yb 2).n (yb 2).c, .slice (yb 3).a (yb 3).n (yb 3).c] := hI.val 9 45 (by decide) rfl (dp 9 (by decide))
      have l11 := dp 11 (by decide)
      obtain ⟨g1, g2, g3⟩ := hH l11
      rw [hl] at g3
      obtain ⟨w', hrn, q', on⟩ := run_store47 g3 yb
      refine wpOp_skip (w' := w') ho e4 (by simp [execOp, e3, ev, g1, V9, hrn]) ?_
      rw [e2]
      refine hI.none_ rfl ⟨Only.below hw g2 hw.size on, G, H, fun h => ?_, fun h => ⟨g1, g2, by rw [show ((fun j => l j || j == 13) 13) = true by simp]; exact q'⟩, fun h h' => hne (by dsimp only at h; rw [oth 10 (by decide)] at h; exact h) l11⟩ (fun j u _ _ _ hf => hf)
      dsimp only at h ⊢
      rw [oth 10 (by decide)] at h
      rw [oth 12 (by decide)]
      exact ⟨(hG h).1, (hG h).2.1, (on.block G (hG h).2.2.lt (fun e => hne h l11 (Option.some.inj e))).trans (hG h).2.2⟩
  · intro l a w hall hI
    obtain ⟨hw, G, H, hG, hH, hne⟩ := hI.world
    have all : ∀ j, j < 14 → l j = true := fun j hj => hall j (by rw [hsz]; exact hj)
    obtain ⟨g1, g2, g3⟩ := hG (all 10 (by decide))
    obtain ⟨h1, h2', h3'⟩ := hH (all 11 (by decide))
    rw [all 12 (by decide)] at g3
    rw [all 13 (by decide)] at h3'
    exact fin a w G H hI.size hI.defers (fun s hs => hI.kept s fun i hi => pairD_ne hs) hw g1 h1 g3 h3'

end Go.Proofs.Ytbmlafgolmmekab
