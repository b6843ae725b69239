/- Own of any adapter; what is handed in; the regions of GraftBack: five texts in one. -/
import Derived.Test.YtbmlafgolmmekaaRows
import Derived.Test.YtbmlafgolmmekaaView
import Derived.Test.YtbmlafgolmmekaaOwn
import Derived.Test.YtbmlafgolmmekaaCfg
import Derived.Test.YtbmlafgolmmekaaCfgs
import Derived.Test.YtbmlafgolmmekaaCfgRef
import Derived.Test.YtbmlafgolmmekaaHeld
import Derived.Test.YtbmlafgolmmekaaReader
import Derived.Test.YtbmlafgolmmekaaSls
import Derived.Test.YtbmlafgolmmekaaSteps
import Derived.Test.YtbmlafgolmmekaaInv
import Derived.Test.YtbmlafgolmmekaaTyped
import Derived.Test.YtbmlafgolmmekaaAds
import Derived.Test.YtbmlafgolmmekaaRanges
import Derived.Test.YtbmlafgolmmekaaPush
import Derived.WalkKit
import Derived.ProofKit
import Derived.OpenShut
import Derived.Below
import Derived.WalkLawsBesides
import Derived.Deep.QuietTactic
import Derived.BigQuiet
import Derived.Lib.QuietBelow
import Derived.Deep.RegionHeld3
import Derived.Orders
import Derived.ArgAppend
import Derived.Maps.AppendAt
import Derived.Lib.SmallJoins
import Derived.ChangeOld
import Derived.ChangeMaps5
import Derived.SizedLaws
import Derived.Deep.Slices
import Derived.Test.YtbmlafgolmmekaaRegs
namespace Go.Proofs.Ytbmlafgolmmekaa
open Go.ChangeShapes Go.WideShapes Go.ChangeAt Go.RowKit
open Go.Sort hiding Below
set_option linter.unusedVariables false
set_option linter.unusedSimpArgs false



def ownD (i : Nat) : Option Nat := if i < 20 then some (18 + i) else if i = 20 then some 3 else none
theorem ownD_inj {i j d : Nat} (h1 : ownD i = some d) (h2 : ownD j = some d) : i = j := by
  unfold ownD at h1 h2
  split at h1 <;> split at h2
  · simp at h1 h2; omega
  · split at h2
    · simp at h1 h2; omega
    · cases h2
  · split at h1
    · simp at h1 h2; omega
    · cases h1
  · split at h1
    · split at h2
      · omega
      · cases h2
    · cases h1

theorem ownD_ne {i s : Nat} (h : s ≠ 3 ∧ (s < 18 ∨ 38 ≤ s)) : ownD i ≠ some s := by
  intro e
  unfold ownD at e
  split at e
  · simp at e; omega
  · split at e
    · simp at e; omega
    · cases e

/-- what each operation leaves, as long as the last append is not done -/
def ownF (B tb k : Nat) (v0 : Value) (Y : Nat → Nat → SL) (f : Nat → Nat → List Int) (y : Nat → SL) (i : Nat) (v : Value) (w : World) : Prop :=
  if i = 0 then v = v0 else if i < 17 then
    (if (i - 1) % 4 = 0 then ∃ g, v = .slice (some ⟨g, 0, none⟩) 0 0 ∧ B ≤ g ∧ Blk 62 w g #[] else if (i - 1) % 4 = 1 then v = .pointer (some ((⟨tb, 0, none⟩ : Addr).add ((i - 1) / 4))) else if (i - 1) % 4 = 2 then v = (y ((i - 1) / 4)).v else ∃ s : SL, v = s.v ∧ TS B w s (f k ((i - 1) / 4)))
  else if i = 17 then ∃ s : Nat → SL, v = .agg #[(s 0).v, (s 1).v, (s 2).v, (s 3).v] ∧ ∀ j, j < 4 → TS B w (s j) (f k j)
  else if i = 18 then ∃ (g : Nat) (s : Nat → SL), v = .slice (some ⟨g, 0, none⟩) 1 1 ∧ Blk 52 w g #[(s 0).v, (s 1).v, (s 2).v, (s 3).v] ∧ ∀ j, j < 4 → TS B w (s j) (f k j)
  else True
def ownG (B tb k : Nat) (v0 : Value) (Y : Nat → Nat → SL) (f : Nat → Nat → List Int) (y : Nat → SL) (l : Nat → Bool) (i : Nat) (v : Value) (w : World) : Prop :=
  if i < 19 then (l 19 = false → ownF B tb k v0 Y f y i v w) else ∃ s : Nat → SL, TA B w v (k + 1) (upd Y k s) f

theorem ownF_below {B tb k : Nat} {v0 : Value} {Y : Nat → Nat → SL} {f : Nat → Nat → List Int} {y : Nat → SL} {i : Nat} {v : Value} {w w' : World} (h : ownF B tb k v0 Y f y i v w) (hb : Below w.heap.size w w') : ownF B tb k v0 Y f y i v w' := by
  unfold ownF at h ⊢
  split
  · rename_i h0
    rw [if_pos h0] at h
    exact h
  · rename_i h0
    rw [if_neg h0] at h
    split
    · rename_i h1
      rw [if_pos h1] at h
      split
      · rename_i h2
        rw [if_pos h2] at h
        obtain ⟨g, e1, e2, e3⟩ := h
        exact ⟨g, e1, e2, e3.kept hb⟩
      · rename_i h2
        rw [if_neg h2] at h
        split
        · rename_i h3
          rw [if_pos h3] at h
          exact h
        · rename_i h3
          rw [if_neg h3] at h
          split
          · rename_i h4
            rw [if_pos h4] at h
            exact h
          · rename_i h4
            rw [if_neg h4] at h
            obtain ⟨s, e1, e2⟩ := h
            exact ⟨s, e1, e2.below hb⟩
    · rename_i h1
      rw [if_neg h1] at h
      split
      · rename_i h2
        rw [if_pos h2] at h
        obtain ⟨s, e1, e2⟩ := h
        exact ⟨s, e1, fun j hj => (e2 j hj).below hb⟩
      · rename_i h2
        rw [if_neg h2] at h
        split
        · rename_i h3
          rw [if_pos h3] at h
          obtain ⟨g, s, e1, e2, e3⟩ := h
          exact ⟨g, s, e1, e2.kept hb, fun j hj => (e3 j hj).below hb⟩
        · trivial

def ownR (B : Nat) (v0 : Value) (w0 : World) (l : Nat → Bool) (a : Act) (w : World) : Prop := Below B w0 w ∧ (l 19 = false → Below w0.heap.size w0 w) ∧ (l 20 = false → a.tmps.getD 3 undef = v0)

theorem own_region {id : Nat} {ops : Array Oper} {Q : Exit → Act → World → Prop} {a0 : Act} {w0 : World} (B tb k : Nat) (v0 : Value) (Y : Nat → Nat → SL) (f : Nat → Nat → List Int) (y : Nat → SL) (hlow : lowB ops = true) (hsz : ops.size = 21)
    (o0 : OpAt ops 0 (some 18) (.move (.tmp 3)) [])
    (hops : ∀ j, j < 4 → OpAt ops (1 + 4 * j) (some (19 + 4 * j)) (.buildSlice 33 0 #[]) [] ∧ OpAt ops (2 + 4 * j) (some (20 + 4 * j)) (.fieldAddr 52 (.tmp 5) j) [] ∧ OpAt ops (3 + 4 * j) (some (21 + 4 * j)) (.load 33 (.tmp (20 + 4 * j))) [2 + 4 * j] ∧
      OpAt ops (4 + 4 * j) (some (22 + 4 * j)) (.call { callee := .builtin .append, args := #[.tmp (19 + 4 * j), .tmp (21 + 4 * j)], argTypes := #[33, 33] }) [1 + 4 * j, 3 + 4 * j])
    (o17 : OpAt ops 17 (some 35) (.build 52 #[(0, .tmp 22), (1, .tmp 26), (2, .tmp 30), (3, .tmp 34)]) [4, 8, 12, 16])
    (o18 : OpAt ops 18 (some 36) (.buildSlice 22 1 #[(0, .tmp 35)]) [17])
    (o19 : OpAt ops 19 (some 37) (.call { callee := .builtin .append, args := #[.tmp 18, .tmp 36], argTypes := #[22, 22] }) [0, 18])
    (o20 : OpAt ops 20 (some 3) (.assign (.tmp 37)) [19])
    (h5 : a0.tmps.getD 5 undef = .pointer (some ⟨tb, 0, none⟩)) (h3 : a0.tmps.getD 3 undef = v0) (hN : 38 ≤ a0.tmps.size)
    (hB : B ≤ w0.heap.size) (hT : TA B w0 v0 k Y f) (q0 : Blk 52 w0 tb #[(y 0).v, (y 1).v, (y 2).v, (y 3).v]) (hy : ∀ j, j < 4 → IsS w0 (y j) (f k j) ∧ (f k j).length ≤ 140737488355328) (hk : (k + 1) * 96 ≤ 140737488355328)
    (fin : ∀ a w (s : Nat → SL), a.tmps.size = a0.tmps.size → a.defers = a0.defers → (∀ s, s ≠ 3 ∧ (s < 18 ∨ 38 ≤ s) → a.tmps.getD s undef = a0.tmps.getD s undef) → Below B w0 w → TA B w (a.tmps.getD 3 undef) (k + 1) (upd Y k s) f → Q .normal a w) :
    (Code.region id ops true).wp Try.prog Q a0 w0 := by
  refine wp_region_inv2 (by kernel_rfl) hlow (Inv 21 ownD a0 (ownR B v0 w0) (ownG B tb k v0 Y f y)) (Inv.start ⟨⟨rfl, rfl, rfl, Nat.le_refl _, fun _ _ => rfl⟩, fun _ => ⟨rfl, rfl, rfl, Nat.le_refl _, fun _ _ => rfl⟩, fun _ => h3⟩) ?_ ?_
  · intro l i o a w ho hl hcl hdep hI
    have hi : i < 21 := by rw [← hsz]; exact (Array.getElem?_eq_some_iff.1 ho).1
    obtain ⟨hw1, hw2, hw3⟩ := hI.world
    have hsB : B ≤ w.heap.size := Nat.le_trans hB hw1.size
    have ev : ∀ (s : Nat), a.eval (.tmp s) = a.tmps.getD s undef := fun _ => rfl
    have inj : ∀ d, ownD i = some d → ∀ j d', j < 21 → ownD j = some d' → j ≠ i → d' ≠ d := fun d hd j d' hj hd' hne e => hne (ownD_inj (by rw [hd', e]) hd)
    have e5' : a.eval (.tmp 5) = .pointer (some ⟨tb, 0, none⟩) := (hI.kept 5 (fun j _ => ownD_ne (by omega))).trans h5
    -- the last append is not done as long as any operation ahead of it is not
    have all : l 19 = true → ∀ j, j < 19 → l j = true := fun h => by
      have d19 := hcl.dep o19 h
      have l0 := d19 0 (by simp)
      have l18 := d19 18 (by simp)
      have l17 := hcl.dep o18 l18 17 (by simp)
      have d17 := hcl.dep o17 l17
      have four : ∀ q, q < 4 → l (4 + 4 * q) = true := fun q hq => by
        rcases (show q = 0 ∨ q = 1 ∨ q = 2 ∨ q = 3 by omega) with rfl | rfl | rfl | rfl
        · exact d17 4 (by simp)
        · exact d17 8 (by simp)
        · exact d17 12 (by simp)
        · exact d17 16 (by simp)
      intro j hj
      by_cases j0 : j = 0
      · rw [j0]; exact l0
      by_cases j17 : j < 17
      · have hq : (j - 1) / 4 < 4 := by omega
        obtain ⟨p0, p1, p2, p3⟩ := hops ((j - 1) / 4) hq
        have f4 := four _ hq
        have f1 := hcl.dep p3 f4 (1 + 4 * ((j - 1) / 4)) (by simp)
        have f3 := hcl.dep p3 f4 (3 + 4 * ((j - 1) / 4)) (by simp)
        have f2 := hcl.dep p2 f3 (2 + 4 * ((j - 1) / 4)) (by simp)
        rcases (show j = 1 + 4 * ((j - 1) / 4) ∨ j = 2 + 4 * ((j - 1) / 4) ∨ j = 3 + 4 * ((j - 1) / 4) ∨ j = 4 + 4 * ((j - 1) / 4) by omega) with e | e | e | e
        · rw [e]; exact f1
        · rw [e]; exact f2
        · rw [e]; exact f3
        · rw [e]; exact f4
      rcases (show j = 17 ∨ j = 18 by omega) with rfl | rfl
      · exact l17
      · exact l18
    have n19 : i < 19 → l 19 = false := fun h => by
      cases e : l 19 with
      | false => rfl
      | true => rw [all e i h] at hl; cases hl
    have ne19 : i < 19 → (l 19 || 19 == i) = false := fun h => by rw [n19 h]; simp; omega
    have val : ∀ j, j < 19 → i ≤ 19 → l j = true → ownF B tb k v0 Y f y j (a.tmps.getD (18 + j) undef) w := fun j hj hi' h => by
      have := hI.val j (18 + j) (by omega) (by unfold ownD; rw [if_pos (by omega)]) h
      unfold ownG at this
      rw [if_pos hj] at this
      exact this (by
        by_cases e : i < 19
        · exact n19 e
        · rw [show i = 19 by omega] at hl
          exact hl)
    have go : ∀ {v w'}, i < 19 → Below w.heap.size w w' → ownF B tb k v0 Y f y i v w' → Inv 21 ownD a0 (ownR B v0 w0) (ownG B tb k v0 Y f y) (fun j => l j || j == i) (a.put (some (18 + i)) v) w' := by
      intro v w' hi' hw hF
      have hD : ownD i = some (18 + i) := by unfold ownD; rw [if_pos (by omega)]
      refine hI.put hi hD (by omega) (inj _ hD) ⟨hw1.trans (hw.mono hsB), fun _ => below_then (hw2 (n19 hi')) hw, fun h => ?_⟩ ?_ ?_
      · rw [get_put a (18 + i) v 3 (by rw [hI.size]; exact Nat.lt_of_lt_of_le (show 18 + i < 38 by omega) hN), if_neg (by omega)]
        exact hw3 (by simp only [Bool.or_eq_false_iff] at h; exact h.1)
      · unfold ownG
        rw [if_pos hi']
        exact fun _ => hF
      · intro j u hj hlj hne hf
        unfold ownG at hf ⊢
        by_cases hj19 : j < 19
        · rw [if_pos hj19] at hf ⊢
          exact fun _ => ownF_below (hf (n19 hi')) hw
        · rw [if_neg hj19] at hf ⊢
          obtain ⟨s, hs⟩ := hf
          exact ⟨s, hs.below hw⟩
    by_cases i0 : i = 0
    · subst i0
      obtain ⟨o', e1, e2, e3, e4, e5⟩ := o0
      obtain rfl := Option.some.inj (ho.symm.trans e1)
      have l20 : l 20 = false := by
        cases e : l 20 with
        | false => rfl
        | true => have := all (hcl.dep o20 e 19 (by simp)) 0 (by omega); rw [hl] at this; cases this
      refine wpOp_value (v := v0) (w' := w) ho e4 ?_ (by rw [e2]; exact go (by omega) (Below.refl _ _) (by unfold ownF; rw [if_pos rfl]))
      simp [execOp, e3, ev, hw3 l20]
    by_cases i17 : i < 17
    · obtain ⟨j, r, hj, hr, rfl⟩ : ∃ j r, j < 4 ∧ r < 4 ∧ i = 1 + r + 4 * j := ⟨(i - 1) / 4, (i - 1) % 4, by omega, by omega, by omega⟩
      obtain ⟨p0, p1, p2, p3⟩ := hops j hj
      have dv : ∀ r, r < 4 → (1 + r + 4 * j - 1) % 4 = r ∧ (1 + r + 4 * j - 1) / 4 = j := fun r hr => by omega
      have hw0 := hw2 (n19 (by omega))
      rcases (show r = 0 ∨ r = 1 ∨ r = 2 ∨ r = 3 by omega) with rfl | rfl | rfl | rfl
      · obtain ⟨o', e1, e2, e3, e4, e5⟩ := p0
        obtain rfl := Option.some.inj (ho.symm.trans e1)
        refine wpOp_value (v := .slice (some ⟨w.heap.size, 0, none⟩) 0 0) (w' := w.alloc (.cells #[] 62)) ho e4 ?_ (by rw [e2, show 19 + 4 * j = 18 + (1 + 0 + 4 * j) by omega]; exact go (by omega) (below_new (Below.refl _ _) _) (by unfold ownF; rw [if_neg (by omega), if_pos (by omega), if_pos (dv 0 hr).1]; exact ⟨_, rfl, hsB, Blk.new 62 w #[]⟩))
        simp [execOp, e3, run_build0]
      · obtain ⟨o', e1, e2, e3, e4, e5⟩ := p1
        obtain rfl := Option.some.inj (ho.symm.trans e1)
        refine wpOp_value (v := .pointer (some ((⟨tb, 0, none⟩ : Addr).add j))) (w' := w) ho e4 ?_ (by rw [e2, show 20 + 4 * j = 18 + (1 + 1 + 4 * j) by omega]; exact go (by omega) (Below.refl _ _) (by unfold ownF; rw [if_neg (by omega), if_pos (by omega), if_neg (by have := (dv 1 hr).1; omega), if_pos (dv 1 hr).1, (dv 1 hr).2]))
        simp [execOp, e3, e5', run_field j hj]
      · obtain ⟨o', e1, e2, e3, e4, e5⟩ := p2
        obtain rfl := Option.some.inj (ho.symm.trans e1)
        have dp := dep_of' e5 hdep
        have ev1 := val (1 + 1 + 4 * j) (by omega) (by omega) (by have := dp (2 + 4 * j) (by simp); rwa [show 2 + 4 * j = 1 + 1 + 4 * j by omega] at this)
        unfold ownF at ev1
        rw [if_neg (by omega), if_pos (by omega), if_neg (by have := (dv 1 (by omega)).1; omega), if_pos (dv 1 (by omega)).1, (dv 1 (by omega)).2, show 18 + (1 + 1 + 4 * j) = 20 + 4 * j by omega] at ev1
        have hc : w.cell? ((⟨tb, 0, none⟩ : Addr).add j) = some (.slice (y j).a (y j).n (y j).c) := by
          have qw := q0.kept hw0
          rcases (show j = 0 ∨ j = 1 ∨ j = 2 ∨ j = 3 by omega) with rfl | rfl | rfl | rfl
          · exact qw.cell 0 rfl
          · exact qw.cell 1 rfl
          · exact qw.cell 2 rfl
          · exact qw.cell 3 rfl
        refine wpOp_value (v := (y j).v) (w' := w) ho e4 ?_ (by rw [e2, show 21 + 4 * j = 18 + (1 + 2 + 4 * j) by omega]; exact go (by omega) (Below.refl _ _) (by unfold ownF; rw [if_neg (by omega), if_pos (by omega), if_neg (by have := (dv 2 hr).1; omega), if_neg (by have := (dv 2 hr).1; omega), if_pos (dv 2 hr).1, (dv 2 hr).2]))
        simp [execOp, e3, ev, ev1, run_load33 hc, SL.v]
      · obtain ⟨o', e1, e2, e3, e4, e5⟩ := p3
        obtain rfl := Option.some.inj (ho.symm.trans e1)
        have dp := dep_of' e5 hdep
        have ev0 := val (1 + 0 + 4 * j) (by omega) (by omega) (by have := dp (1 + 4 * j) (by simp); rwa [show 1 + 4 * j = 1 + 0 + 4 * j by omega] at this)
        unfold ownF at ev0
        rw [if_neg (by omega), if_pos (by omega), if_pos (dv 0 (by omega)).1, show 18 + (1 + 0 + 4 * j) = 19 + 4 * j by omega] at ev0
        obtain ⟨g, ev1, hgB, hgq⟩ := ev0
        have ev2 := val (1 + 2 + 4 * j) (by omega) (by omega) (by have := dp (3 + 4 * j) (by simp); rwa [show 3 + 4 * j = 1 + 2 + 4 * j by omega] at this)
        unfold ownF at ev2
        rw [if_neg (by omega), if_pos (by omega), if_neg (by have := (dv 2 (by omega)).1; omega), if_neg (by have := (dv 2 (by omega)).1; omega), if_pos (dv 2 (by omega)).1, (dv 2 (by omega)).2, show 18 + (1 + 2 + 4 * j) = 21 + 4 * j by omega] at ev2
        obtain ⟨hSj, hZj⟩ := hy j hj
        obtain ⟨s', w', hrn, hbw, hts⟩ := run_copy_ts w g B o.type (y j) (f k j) (hSj.below hw0) hZj hgB hgq hsB
        refine wpOp_value (v := s'.v) (w' := w') ho e4 ?_ (by rw [e2, show 22 + 4 * j = 18 + (1 + 3 + 4 * j) by omega]; exact go (by omega) hbw (by unfold ownF; rw [if_neg (by omega), if_pos (by omega), if_neg (by have := (dv 3 hr).1; omega), if_neg (by have := (dv 3 hr).1; omega), if_neg (by have := (dv 3 hr).1; omega), (dv 3 hr).2]; exact ⟨s', rfl, hts⟩))
        simp only [execOp, e3, resolve, invoke, builtin, Sem.run_bind, Sem.run_pure, Result.andThen_ok, List.map_toArray, List.map_cons, List.map_nil, ev, ev1, ev2, SL.v, hrn]
    rcases (show i = 17 ∨ i = 18 ∨ i = 19 ∨ i = 20 by omega) with rfl | rfl | rfl | rfl
    · obtain ⟨o', e1, e2, e3, e4, e5⟩ := o17
      obtain rfl := Option.some.inj (ho.symm.trans e1)
      have dp := dep_of' e5 hdep
      have c0 := val 4 (by omega) (by omega) (dp 4 (by simp))
      have c1 := val 8 (by omega) (by omega) (dp 8 (by simp))
      have c2 := val 12 (by omega) (by omega) (dp 12 (by simp))
      have c3 := val 16 (by omega) (by omega) (dp 16 (by simp))
      obtain ⟨s0, f0, t0⟩ : ∃ s : SL, a.tmps.getD 22 undef = s.v ∧ TS B w s (f k 0) := c0
      obtain ⟨s1, f1, t1⟩ : ∃ s : SL, a.tmps.getD 26 undef = s.v ∧ TS B w s (f k 1) := c1
      obtain ⟨s2, f2, t2⟩ : ∃ s : SL, a.tmps.getD 30 undef = s.v ∧ TS B w s (f k 2) := c2
      obtain ⟨s3, f3, t3⟩ : ∃ s : SL, a.tmps.getD 34 undef = s.v ∧ TS B w s (f k 3) := c3
      refine wpOp_value (v := .agg #[s0.v, s1.v, s2.v, s3.v]) (w' := w) ho e4 ?_ (by rw [e2]; exact go (by omega) (Below.refl _ _) (show ∃ s : Nat → SL, Value.agg #[s0.v, s1.v, s2.v, s3.v] = .agg #[(s 0).v, (s 1).v, (s 2).v, (s 3).v] ∧ ∀ j, j < 4 → TS B w (s j) (f k j) from ⟨four s0 s1 s2 s3, rfl, fun j hj => by
        rcases (show j = 0 ∨ j = 1 ∨ j = 2 ∨ j = 3 by omega) with rfl | rfl | rfl | rfl
        · exact t0
        · exact t1
        · exact t2
        · exact t3⟩))
      simp [execOp, e3, ev, f0, f1, f2, f3, run_build52]
    · obtain ⟨o', e1, e2, e3, e4, e5⟩ := o18
      obtain rfl := Option.some.inj (ho.symm.trans e1)
      have dp := dep_of' e5 hdep
      obtain ⟨s, f0, t0⟩ : ∃ s : Nat → SL, a.tmps.getD 35 undef = .agg #[(s 0).v, (s 1).v, (s 2).v, (s 3).v] ∧ ∀ j, j < 4 → TS B w (s j) (f k j) := val 17 (by omega) (by omega) (dp 17 (by simp))
      refine wpOp_value (v := .slice (some ⟨w.heap.size, 0, none⟩) 1 1) (w' := w.alloc (.cells #[(s 0).v, (s 1).v, (s 2).v, (s 3).v] 52)) ho e4 ?_ (by rw [e2]; exact go (by omega) (below_new (Below.refl _ _) _) (show ∃ (g : Nat) (s' : Nat → SL), Value.slice (some ⟨w.heap.size, 0, none⟩) 1 1 = .slice (some ⟨g, 0, none⟩) 1 1 ∧ Blk 52 (w.alloc (.cells #[(s 0).v, (s 1).v, (s 2).v, (s 3).v] 52)) g #[(s' 0).v, (s' 1).v, (s' 2).v, (s' 3).v] ∧ ∀ j, j < 4 → TS B (w.alloc (.cells #[(s 0).v, (s 1).v, (s 2).v, (s 3).v] 52)) (s' j) (f k j) from ⟨_, s, rfl, Blk.new 52 w _, fun j hj => (t0 j hj).below (below_new (Below.refl _ _) _)⟩))
      simp [execOp, e3, ev, f0, run_build22]
    · obtain ⟨o', e1, e2, e3, e4, e5⟩ := o19
      obtain rfl := Option.some.inj (ho.symm.trans e1)
      have dp := dep_of' e5 hdep
      have f0 : a.tmps.getD 18 undef = v0 := val 0 (by omega) (by omega) (dp 0 (by simp))
      obtain ⟨g, s, f1, qg, ts⟩ : ∃ (g : Nat) (s : Nat → SL), a.tmps.getD 36 undef = .slice (some ⟨g, 0, none⟩) 1 1 ∧ Blk 52 w g #[(s 0).v, (s 1).v, (s 2).v, (s 3).v] ∧ ∀ j, j < 4 → TS B w (s j) (f k j) := val 18 (by omega) (by omega) (dp 18 (by simp))
      have hw0 := hw2 hl
      obtain ⟨v', w', hrn, hbw, _, _, hta⟩ := run_push w o.type B k v0 Y f s g 1 (hT.below hw0) qg ts hk hsB
      refine wpOp_value (v := v') (w' := w') ho e4 ?_ ?_
      · simp only [execOp, e3, resolve, invoke, builtin, Sem.run_bind, Sem.run_pure, Result.andThen_ok, List.map_toArray, List.map_cons, List.map_nil, ev, f0, f1, hrn]
      · rw [e2]
        have hD : ownD 19 = some 37 := rfl
        refine hI.put hi hD (by omega) (inj _ hD) ⟨hw1.trans hbw, (fun h => by simp at h), fun h => ?_⟩ (show ∃ s : Nat → SL, TA B w' v' (k + 1) (upd Y k s) f from ⟨s, hta⟩) ?_
        · rw [get_put a 37 v' 3 (by rw [hI.size]; exact Nat.lt_of_lt_of_le (by decide) hN), if_neg (by decide)]
          exact hw3 (by simp only [Bool.or_eq_false_iff] at h; exact h.1)
        · intro j u hj hlj hne hf
          unfold ownG at hf ⊢
          by_cases hj19 : j < 19
          · rw [if_pos hj19]
            intro h
            simp at h
          · exfalso
            have : j = 20 := by omega
            subst this
            have := hcl.dep o20 hlj 19 (by simp)
            rw [hl] at this
            cases this
    · obtain ⟨o', e1, e2, e3, e4, e5⟩ := o20
      obtain rfl := Option.some.inj (ho.symm.trans e1)
      have dp := dep_of' e5 hdep
      have l19 := dp 19 (by simp)
      obtain ⟨s, hta⟩ : ∃ s : Nat → SL, TA B w (a.tmps.getD 37 undef) (k + 1) (upd Y k s) f := hI.val 19 37 (by omega) rfl l19
      refine wpOp_value (v := a.tmps.getD 37 undef) (w' := w) ho e4 (by simp [execOp, e3, ev]) ?_
      rw [e2]
      have hD : ownD 20 = some 3 := rfl
      refine hI.put hi hD (by omega) (inj _ hD) ⟨hw1, (fun h => by simp [l19] at h), (fun h => by simp at h)⟩ (show ∃ s : Nat → SL, TA B w _ (k + 1) (upd Y k s) f from ⟨s, hta⟩) ?_
      intro j u hj hlj hne hf
      unfold ownG at hf ⊢
      by_cases hj19 : j < 19
      · rw [if_pos hj19]
        intro h
        simp [l19] at h
      · rw [if_neg hj19] at hf ⊢
        exact hf
  · intro l a w hall hI
    obtain ⟨hw1, _, _⟩ := hI.world
    obtain ⟨s, hta⟩ : ∃ s : Nat → SL, TA B w (a.tmps.getD 3 undef) (k + 1) (upd Y k s) f := hI.val 20 3 (by omega) rfl (hall 20 (by omega))
    exact fin a w s hI.size hI.defers (fun s hs => hI.kept s fun i hi => ownD_ne hs) hw1 hta





/-- lists that are not longer than memory -/
structure FitsA (m : AdV) : Prop where
  ln : m.ln ≤ 20
  f : ∀ i, i < m.ln → ∀ j, j < 4 → (m.f i j).length ≤ 140737488351232

set_option maxHeartbeats 8000000 in
set_option maxRecDepth 20000 in
theorem own_walk (R S : Int) (La : Option Addr) (ml Lc : Nat) (L : SL) (Y : Nat → Nat → SL) (m : AdV) (w : World) (hM : AdAt w L Y m) (hF : FitsA m) (e1 : L.a = La) (hml : m.ln = ml) :
    Calls Try.prog 9 #[.agg #[.int .i64 R, .int .i64 S, .slice La ml Lc]] w fun e w' => ∃ (L' : SL) (Y' : Nat → Nat → SL), e = .returned (.agg #[.int .i64 R, .int .i64 S, .slice L'.a L'.n L'.c]) ∧ NewA w.heap.size w' L' Y' m ∧ Below w.heap.size w w' := by
  obtain ⟨W0, eW⟩ : ∃ W0, (w.alloc (.cells #[.int .i64 R, .int .i64 S, .slice La ml Lc] 24)).alloc (.cells #[.int .i64 0, .int .i64 0, nilS] 24) = W0 := ⟨_, rfl⟩
  have hb : Below w.heap.size w W0 := eW ▸ below_new (below_new (Below.refl _ w) _) _
  have qa : Blk 24 W0 w.heap.size #[.int .i64 R, .int .i64 S, .slice La ml Lc] := eW ▸ (Blk.new 24 w _).kept (below_new (Below.refl _ _) _)
  have qb : Blk 24 W0 (w.heap.size + 1) #[.int .i64 0, .int .i64 0, nilS] := eW ▸ Blk.new_at 24 (w.alloc _) _ _ (by simp)
  have HM := hidden_ hM
  have HF := hidden_ hF
  have HL := hidden_ (And.intro e1 hml)
  have Hml : ml ≤ 20 := by have := hF.ln; omega
  have HV := hidden_ (And.intro hb (And.intro qa qb))
  have EW := hidden_ eW
  clear hM hF e1 hml hb qa qb eW
  go_enter Try.func9, Try.ntmps9
  go_wp2
  rw [EW.out]
  go_loopw [3, 4, 5] (fun v3 i _ wr => ∃ k : Nat, k ≤ ml ∧ i = .int .i64 k ∧ Below W0.heap.size W0 wr ∧ ∃ Y' : Nat → Nat → SL, TA W0.heap.size wr v3 k Y' m.f) (fun _ i _ _ => ml - (intOf i).toNat)
  case atStart => exact ⟨0, Nat.zero_le _, rfl, Below.refl _ _, fun _ _ => SL.nought, TA.nil _ _ _ _⟩
  case round =>
    obtain ⟨k, hk, rfl, hbr, Y', tL⟩ := hrel
    obtain ⟨WR, eWR⟩ : ∃ WR, WR = wr := ⟨_, rfl⟩
    subst eWR
    obtain ⟨bV, qa, qb⟩ := HV.out
    have hbw := below_then bV hbr
    obtain ⟨a0, a1, a2⟩ := (qa.kept hbr).c3
    by_cases hlt : k < ml
    · have hMr := HM.out.below hbw
      have hkm : k < m.ln := by rw [HL.out.2]; exact hlt
      obtain ⟨x0, hx0⟩ := hMr.some_ (by omega)
      obtain rfl : La = some x0 := HL.out.1.symm.trans hx0
      have la := hMr.lay k hkm
      obtain ⟨P, eP, p0, p1, p2, p3⟩ := at_four (fun j hj => hMr.cell x0 hx0 k hkm j hj)
      have hlt' : (k : Int) < (ml : Int) := by omega
      have srs := hbr.size
      have HB := hidden_ (And.intro hbw hbr)
      have HLA := hidden_ la
      have HT := hidden_ tL
      have HS := hidden_ srs
      clear hMr hbw hbr la tL bV qa qb srs
      go_wp2
      have q5 := Blk.new 52 WR #[.slice (Y k 0).a (Y k 0).n (Y k 0).c, .slice (Y k 1).a (Y k 1).n (Y k 1).c, .slice (Y k 2).a (Y k 2).n (Y k 2).c, .slice (Y k 3).a (Y k 3).n (Y k 3).c]
      obtain ⟨W1, e1⟩ : ∃ W1, WR.alloc (.cells #[.slice (Y k 0).a (Y k 0).n (Y k 0).c, .slice (Y k 1).a (Y k 1).n (Y k 1).c, .slice (Y k 2).a (Y k 2).n (Y k 2).c, .slice (Y k 3).a (Y k 3).n (Y k 3).c] 52) = W1 := ⟨_, rfl⟩
      have bW1 : Below WR.heap.size WR W1 := e1 ▸ below_new (Below.refl _ _) _
      rw [e1] at q5 ⊢
      clear e1 p0 p1 p2 p3 a0 a1 a2
      refine own_region W0.heap.size WR.heap.size k _ Y' m.f (Y k) (by kernel_rfl) rfl ⟨_, rfl, rfl, rfl, rfl, by kernel_rfl⟩ (fun j hj => by rcases (show j = 0 ∨ j = 1 ∨ j = 2 ∨ j = 3 by omega) with rfl | rfl | rfl | rfl <;> exact ⟨⟨_, rfl, rfl, rfl, rfl, by kernel_rfl⟩, ⟨_, rfl, rfl, rfl, rfl, by kernel_rfl⟩, ⟨_, rfl, rfl, rfl, rfl, by kernel_rfl⟩, ⟨_, rfl, rfl, rfl, rfl, by kernel_rfl⟩⟩)
        ⟨_, rfl, rfl, rfl, rfl, by kernel_rfl⟩ ⟨_, rfl, rfl, rfl, rfl, by kernel_rfl⟩ ⟨_, rfl, rfl, rfl, rfl, by kernel_rfl⟩ ⟨_, rfl, rfl, rfl, rfl, by kernel_rfl⟩ rfl rfl (Nat.le_of_ble_eq_true rfl) (Nat.le_trans HS.out bW1.size) (HT.out.below bW1) q5 (fun j hj => ⟨(HLA.out j hj).below bW1, by have := HF.out.f k hkm j hj; omega⟩) (by omega) ?_
      intro a W2 s hs hd hkp hbo hta
      have bW2 : Below W0.heap.size W0 W2 := (below_then HB.out.2 bW1).trans hbo
      have ep := frame_puts [3, 18, 19, 20, 21, 22, 23, 24, 25, 26, 27, 28, 29, 30, 31, 32, 33, 34, 35, 36, 37] hs hd (fun s h => hkp s (by simp at h; omega))
      simp only [List.foldl] at ep
      clear hs hd hkp
      generalize a.tmps.getD 3 undef = g3 at ep hta
      generalize a.tmps.getD 18 undef = g18 at ep
      generalize a.tmps.getD 19 undef = g19 at ep
      generalize a.tmps.getD 20 undef = g20 at ep
      generalize a.tmps.getD 21 undef = g21 at ep
      generalize a.tmps.getD 22 undef = g22 at ep
      generalize a.tmps.getD 23 undef = g23 at ep
      generalize a.tmps.getD 24 undef = g24 at ep
      generalize a.tmps.getD 25 undef = g25 at ep
      generalize a.tmps.getD 26 undef = g26 at ep
      generalize a.tmps.getD 27 undef = g27 at ep
      generalize a.tmps.getD 28 undef = g28 at ep
      generalize a.tmps.getD 29 undef = g29 at ep
      generalize a.tmps.getD 30 undef = g30 at ep
      generalize a.tmps.getD 31 undef = g31 at ep
      generalize a.tmps.getD 32 undef = g32 at ep
      generalize a.tmps.getD 33 undef = g33 at ep
      generalize a.tmps.getD 34 undef = g34 at ep
      generalize a.tmps.getD 35 undef = g35 at ep
      generalize a.tmps.getD 36 undef = g36 at ep
      generalize a.tmps.getD 37 undef = g37 at ep
      simp only [Act.put, List.setIfInBounds_toArray, List.set_cons_succ, List.set_cons_zero] at ep
      subst ep
      clear q5 bW1 hbo
      go_wp2
      go_roundw
      case rel => exact ⟨k + 1, by omega, by go_num, bW2, _, hta⟩
      case measure => simp [intOf]; omega
    · have e : k = ml := by omega
      subst e
      have el : m.ln = k := HL.out.2
      obtain ⟨L', rfl, nw⟩ := TA.new (m := m) (by rw [el]; exact tL)
      have qb' := qb.kept hbr
      have qa' := qa.kept hbr
      have lt1 := qa.lt
      have lt2 := qb.lt
      obtain ⟨b0, b1, b2⟩ := qb'.c3
      obtain ⟨z0, z1, z2⟩ := qa'.o3
      -- the layers are laid into the adapter, and that into the result
      have qa2 : Blk 24 (WR.setCell ⟨w.heap.size, 2, none⟩ (.slice L'.a L'.n L'.c)) w.heap.size #[.int .i64 R, .int .i64 S, .slice L'.a L'.n L'.c] := set_blk qa' 2 _ rfl
      have qb2 : Blk 24 (WR.setCell ⟨w.heap.size, 2, none⟩ (.slice L'.a L'.n L'.c)) (w.heap.size + 1) #[.int .i64 0, .int .i64 0, nilS] := qb'.other _ (by simp)
      have on2 := Only.set w.heap.size 2 WR (.slice L'.a L'.n L'.c)
      obtain ⟨V, eV⟩ : ∃ V, WR.setCell ⟨w.heap.size, 2, none⟩ (.slice L'.a L'.n L'.c) = V := ⟨_, rfl⟩
      rw [eV] at qa2 qb2 on2
      have bV2 : Below w.heap.size w V := Only.below hbw (Nat.le_refl _) hbw.size on2
      obtain ⟨d0, d1, d2⟩ := qa2.c3
      obtain ⟨f0, f1, f2⟩ := qb2.c3
      obtain ⟨o0, o1, o2⟩ := qb2.o3
      clear tL b0 b1 b2
      unfold SL.v
      go_wp2
      obtain ⟨W6, eW6, q6, only, hz⟩ := set3 qb2 (.int .i64 R) (.int .i64 S) (.slice L'.a L'.n L'.c)
      rw [eW6]
      refine bodyPost_ret (v := .agg #[.int .i64 R, .int .i64 S, .slice L'.a L'.n L'.c]) ?_ rfl ⟨L', Y', rfl, ((nw.only on2 lt1).only only lt2).le (by omega), Only.below bV2 (Nat.le_succ _) bV2.size only⟩
      obtain ⟨y0, y1, y2⟩ := q6.c3
      simp [results, Try.results9, go_sem, y0, y1, y2]

theorem own_call (R S : Int) (L : SL) (Y : Nat → Nat → SL) (m : AdV) (w : World) (hM : AdAt w L Y m) (hF : FitsA m) :
    Calls Try.prog 9 #[.agg #[.int .i64 R, .int .i64 S, .slice L.a L.n L.c]] w fun e w' => ∃ (L' : SL) (Y' : Nat → Nat → SL), e = .returned (.agg #[.int .i64 R, .int .i64 S, .slice L'.a L'.n L'.c]) ∧ NewA w.heap.size w' L' Y' m ∧ Below w.heap.size w w' :=
  own_walk R S L.a L.n L.c L Y m w hM hF rfl hM.len.symm




theorem array8 {α : Type} {cs : Array α} (h : cs.size = 8) : ∃ c0 c1 c2 c3 c4 c5 c6 c7, cs = #[c0, c1, c2, c3, c4, c5, c6, c7] := by
  obtain ⟨l⟩ := cs
  match l, h with
  | [c0, c1, c2, c3, c4, c5, c6, c7], _ => exact ⟨c0, c1, c2, c3, c4, c5, c6, c7, rfl⟩

theorem cells26 : Try.prog.cellsOf 26 = 8 := by kernel_rfl
theorem cells3 : Try.prog.cellsOf 3 = 1 := by kernel_rfl

/-- eight cells that read as a configuration are eight numbers -/
theorem cfg_cells {H : Type} {enc : TypeId × Value → H} {W : World} {base fuel : Nat} {spare : Nat → Bool} {held : Bool} {c0 c1 c2 c3 c4 c5 c6 c7 : Value} {x : DataW H × List MemPlace}
    (h : DataW.trod enc Try.prog W base spare held fuel 26 [c0, c1, c2, c3, c4, c5, c6, c7] = some x) :
    ∃ d h l v u x t n : Int, c0 = .int .i64 d ∧ c1 = .int .i64 h ∧ c2 = .int .i64 l ∧ c3 = .int .i64 v ∧ c4 = .int .i64 u ∧ c5 = .int .i64 x ∧ c6 = .int .i64 t ∧ c7 = .int .i64 n := by
  obtain ⟨xs, n, -, -, -, hlen, hf⟩ := DataW.trod_struct Try.underlying26 h
  have one : ∀ (i : Nat) (f : Field) (c : Value), (#[c0, c1, c2, c3, c4, c5, c6, c7])[i]? = some c → f.type = 3 → ([c0, c1, c2, c3, c4, c5, c6, c7].drop f.offset).take (Try.prog.cellsOf f.type) = [c] → i < xs.length → DataW.trod enc Try.prog W base spare held n f.type (([c0, c1, c2, c3, c4, c5, c6, c7].drop f.offset).take (Try.prog.cellsOf f.type)) = xs[i]? → ∃ z : Int, c = .int .i64 z := fun i f c _ ht hc hi hh => by
    rw [hc, ht, List.getElem?_eq_getElem hi] at hh
    obtain ⟨z, ez, -, -⟩ := DataW.trod_int Try.underlying3 hh
    exact ⟨z, by simpa using ez⟩
  have hl : xs.length = 8 := hlen.trans (by rfl)
  obtain ⟨z0, e0⟩ := one 0 _ c0 rfl rfl (by show List.take (Try.prog.cellsOf 3) _ = _; rw [cells3]; rfl) (by omega) (hf 0 _ rfl)
  obtain ⟨z1, e1⟩ := one 1 _ c1 rfl rfl (by show List.take (Try.prog.cellsOf 3) _ = _; rw [cells3]; rfl) (by omega) (hf 1 _ rfl)
  obtain ⟨z2, e2⟩ := one 2 _ c2 rfl rfl (by show List.take (Try.prog.cellsOf 3) _ = _; rw [cells3]; rfl) (by omega) (hf 2 _ rfl)
  obtain ⟨z3, e3⟩ := one 3 _ c3 rfl rfl (by show List.take (Try.prog.cellsOf 3) _ = _; rw [cells3]; rfl) (by omega) (hf 3 _ rfl)
  obtain ⟨z4, e4⟩ := one 4 _ c4 rfl rfl (by show List.take (Try.prog.cellsOf 3) _ = _; rw [cells3]; rfl) (by omega) (hf 4 _ rfl)
  obtain ⟨z5, e5⟩ := one 5 _ c5 rfl rfl (by show List.take (Try.prog.cellsOf 3) _ = _; rw [cells3]; rfl) (by omega) (hf 5 _ rfl)
  obtain ⟨z6, e6⟩ := one 6 _ c6 rfl rfl (by show List.take (Try.prog.cellsOf 3) _ = _; rw [cells3]; rfl) (by omega) (hf 6 _ rfl)
  obtain ⟨z7, e7⟩ := one 7 _ c7 rfl rfl (by show List.take (Try.prog.cellsOf 3) _ = _; rw [cells3]; rfl) (by omega) (hf 7 _ rfl)
  exact ⟨z0, z1, z2, z3, z4, z5, z6, z7, e0, e1, e2, e3, e4, e5, e6, e7⟩

theorem open_cfg {H : Type} {enc : TypeId × Value → H} {W : World} {base b0 : Nat} {spare : Nat → Bool} {held : Bool} {r : Reach} {v : Value} {dd : DataW H} {p : List MemPlace} (hv : Value.okWide Try.prog W r b0 26 v) (h : DataW.Trod enc Try.prog W base spare held 26 v dd p) :
    ∃ d h l v' u x t n : Int, v = .agg #[.int .i64 d, .int .i64 h, .int .i64 l, .int .i64 v', .int .i64 u, .int .i64 x, .int .i64 t, .int .i64 n] := by
  obtain ⟨cs, rfl, hsz⟩ := okWide_struct Try.underlying26 hv
  obtain ⟨c0, c1, c2, c3, c4, c5, c6, c7, rfl⟩ := array8 (hsz.trans cells26)
  obtain ⟨fuel, hf⟩ := h
  obtain ⟨d, h, l, v, u, x, t, n, e0, e1, e2, e3, e4, e5, e6, e7⟩ := cfg_cells (by simpa [Value.cells] using hf)
  subst e0 e1 e2 e3 e4 e5 e6 e7
  exact ⟨d, h, l, v, u, x, t, n, rfl⟩




theorem by62 : Try.prog.bytesOf 62 = 1 := by kernel_rfl
theorem ce33 : Try.prog.cellsOf 33 = 1 := by kernel_rfl
theorem ce22 : Try.prog.cellsOf 22 = 1 := by kernel_rfl
theorem ce52 : Try.prog.cellsOf 52 = 4 := by kernel_rfl
theorem ce24 : Try.prog.cellsOf 24 = 3 := by kernel_rfl

/-- within memory -/
def Small {H : Type} (d : DataW H) (t : TypeId) : Prop := ∀ m ∈ d.weights Try.prog t, m ≤ reachBytes

theorem weights_all {H : Type} {P : Program} {e : TypeId} {d : DataW H} {m : Nat} : ∀ {l : List (DataW H)}, d ∈ l → m ∈ d.weights P e → m ∈ DataW.weightsAll P e l
  | x :: l, h, hm => by
    simp only [DataW.weightsAll, List.mem_append]
    rcases List.mem_cons.1 h with rfl | h
    · exact .inl hm
    · exact .inr (weights_all h hm)

theorem choose_below {α : Type} (d0 : α) {n : Nat} {p : Nat → α → Prop} (h : ∀ i, i < n → ∃ a, p i a) : ∃ F : Nat → α, ∀ i, i < n → p i (F i) := by
  refine ⟨fun i => if hi : i < n then (h i hi).choose else d0, fun i hi => ?_⟩
  simp only [dif_pos hi]
  exact (h i hi).choose_spec

theorem small_field {H : Type} {t : TypeId} {fs : Array Field} {parts : List (DataW H)} (hu : Try.prog.underlying t = some (.struct fs)) (hs : Small (.agg parts) t) {j : Nat} {f : Field} {d : DataW H} (hf : fs.toList[j]? = some f) (hd : parts[j]? = some d) : Small d f.type := by
  intro m hm
  refine hs m ?_
  simp only [DataW.weights, hu]
  exact DataW.weights_mem_each (j := j) (by simp [hf]) hd m hm

section
variable {H : Type} {enc : TypeId × Value → H} {W : World} {fuel : Nat}

theorem open_s {c : Value} {x : DataW H × List MemPlace} (h : DataW.trod enc Try.prog W 0 (fun _ => true) true fuel 33 [c] = some x) : ∃ (s : SL) (zs : List Int), c = s.v ∧ IsS W s zs ∧ (Small x.1 33 → zs.length ≤ 140737488351232) := by
  rcases open_ints Try.underlying33 Try.underlying62 (by kernel_rfl) h with ⟨hcs, hd⟩ | ⟨y, l, cp, zs, hcs, _, hl, hm, hz, hd, hcell, hwz⟩
  · obtain rfl : c = .slice none 0 0 := by simpa using hcs
    exact ⟨⟨none, 0, 0⟩, [], rfl, IsS.none_ _, fun _ => by simp⟩
  · obtain rfl : c = .slice (some y) l cp := by simpa using hcs
    have hz' : zs.length = cp := by simpa using hz
    refine ⟨⟨some y, l, cp⟩, zs.take l, rfl, ⟨Reads.of_open hl hm hz' hcell hwz, (fun h => by cases h), hl⟩, fun hs => ?_⟩
    have hd' : x.1 = _ := congrArg Prod.fst hd
    rw [hd'] at hs
    have := hs _ (by simp only [DataW.weights, Try.underlying33, by62]; exact List.mem_cons_self)
    simp only [lits, List.length_map, List.length_take, List.length_drop, reachBytes] at this
    rw [List.length_take]
    omega

/-- what a layer is opened to -/
structure LayV where
  Y : Nat → SL
  f : Nat → List Int
def LayV.nought : LayV := ⟨fun _ => SL.nought, fun _ => []⟩

theorem open_y {c0 c1 c2 c3 : Value} {x : DataW H × List MemPlace} (h : DataW.trod enc Try.prog W 0 (fun _ => true) true fuel 52 [c0, c1, c2, c3] = some x) :
    ∃ y : LayV, (∀ j, j < 4 → [c0, c1, c2, c3][j]? = some (y.Y j).v) ∧ (∀ j, j < 4 → IsS W (y.Y j) (y.f j)) ∧ (Small x.1 52 → ∀ j, j < 4 → (y.f j).length ≤ 140737488351232) := by
  obtain ⟨xs, n, -, ex, -, hlen, hf⟩ := DataW.trod_struct Try.underlying52 h
  have hl : xs.length = 4 := hlen.trans (by rfl)
  match xs, hl with
  | [x0, x1, x2, x3], _ =>
  have g0 : DataW.trod enc Try.prog W 0 (fun _ => true) true n 33 [c0] = some x0 := by rw [show [c0] = ([c0, c1, c2, c3].drop 0).take (Try.prog.cellsOf 33) by rw [ce33]; rfl]; exact hf 0 _ rfl
  have g1 : DataW.trod enc Try.prog W 0 (fun _ => true) true n 33 [c1] = some x1 := by rw [show [c1] = ([c0, c1, c2, c3].drop 1).take (Try.prog.cellsOf 33) by rw [ce33]; rfl]; exact hf 1 _ rfl
  have g2 : DataW.trod enc Try.prog W 0 (fun _ => true) true n 33 [c2] = some x2 := by rw [show [c2] = ([c0, c1, c2, c3].drop 2).take (Try.prog.cellsOf 33) by rw [ce33]; rfl]; exact hf 2 _ rfl
  have g3 : DataW.trod enc Try.prog W 0 (fun _ => true) true n 33 [c3] = some x3 := by rw [show [c3] = ([c0, c1, c2, c3].drop 3).take (Try.prog.cellsOf 33) by rw [ce33]; rfl]; exact hf 3 _ rfl
  obtain ⟨s0, z0, e0, i0, w0⟩ := open_s g0
  obtain ⟨s1, z1, e1, i1, w1⟩ := open_s g1
  obtain ⟨s2, z2, e2, i2, w2⟩ := open_s g2
  obtain ⟨s3, z3, e3, i3, w3⟩ := open_s g3
  refine ⟨⟨four s0 s1 s2 s3, fun j => [z0, z1, z2, z3].getD j []⟩, fun j hj => ?_, fun j hj => ?_, fun hs j hj => ?_⟩
  · subst e0 e1 e2 e3
    rcases (show j = 0 ∨ j = 1 ∨ j = 2 ∨ j = 3 by omega) with rfl | rfl | rfl | rfl <;> rfl
  · rcases (show j = 0 ∨ j = 1 ∨ j = 2 ∨ j = 3 by omega) with rfl | rfl | rfl | rfl <;> assumption
  · rw [ex] at hs
    rcases (show j = 0 ∨ j = 1 ∨ j = 2 ∨ j = 3 by omega) with rfl | rfl | rfl | rfl
    · exact w0 (small_field Try.underlying52 hs (j := 0) rfl rfl)
    · exact w1 (small_field Try.underlying52 hs (j := 1) rfl rfl)
    · exact w2 (small_field Try.underlying52 hs (j := 2) rfl rfl)
    · exact w3 (small_field Try.underlying52 hs (j := 3) rfl rfl)

/-- the layers of an adapter -/
theorem open_l {c : Value} {x : DataW H × List MemPlace} (h : DataW.trod enc Try.prog W 0 (fun _ => true) true fuel 22 [c] = some x) : ∃ (s : SL) (F : Nat → LayV), c = s.v ∧ (0 < s.n → ∃ x, s.a = some x) ∧ (s.a = none → s.c = 0) ∧ s.n ≤ s.c ∧ s.n ≤ 9223372036854775807 ∧
    (∀ x, s.a = some x → ∀ i, i < s.n → ∀ j, j < 4 → W.cell? ((x.add (i * 4)).add j) = some ((F i).Y j).v) ∧ (∀ i, i < s.n → ∀ j, j < 4 → IsS W ((F i).Y j) ((F i).f j)) ∧ (Small x.1 22 → ∀ i, i < s.n → ∀ j, j < 4 → ((F i).f j).length ≤ 140737488351232) := by
  rcases Go.Deep.open_slice Try.underlying22 h with ⟨hcs, hd⟩ | ⟨a, len, cap, m, n, D, Pl, hcs, _, hl, hm, hmm, rfl, hx⟩
  · obtain rfl : c = .slice none 0 0 := by simpa using hcs
    exact ⟨⟨none, 0, 0⟩, fun _ => LayV.nought, rfl, (fun h => by cases h), fun _ => rfl, Nat.le_refl _, Nat.zero_le _, (fun x hx => by cases hx), (fun i hi => by cases hi), fun _ i hi => by cases hi⟩
  · obtain rfl : c = .slice (some a) len cap := by simpa using hcs
    have hlm : len ≤ m := by rw [hmm]; simp; exact hl
    rw [ce52] at hx
    obtain ⟨F, hF⟩ := choose_below LayV.nought (n := len) (p := fun i y => (∀ j, j < 4 → W.cell? ((a.add (i * 4)).add j) = some (y.Y j).v) ∧ (∀ j, j < 4 → IsS W (y.Y j) (y.f j)) ∧ (Small (D i) 52 → ∀ j, j < 4 → (y.f j).length ≤ 140737488351232)) (fun i hi => by
      obtain ⟨cs', h1, h2⟩ := hx i (by omega)
      obtain ⟨q1, hlen, q3⟩ := World.cells?_some h1
      match cs', hlen with
      | [c0, c1, c2, c3], _ =>
        obtain ⟨y, ey, iy, wy⟩ := open_y h2
        exact ⟨y, fun j hj => (q3 j hj).trans (ey j hj), iy, wy⟩)
    refine ⟨⟨some a, len, cap⟩, F, rfl, fun _ => ⟨_, rfl⟩, (fun h => by cases h), hl, by show len ≤ _; unfold maxLen at hm; omega, fun x hx' i hi => ?_, fun i hi => (hF i hi).2.1, fun hs i hi => (hF i hi).2.2 fun q hq => hs q ?_⟩
    · obtain rfl := Option.some.inj hx'
      exact (hF i hi).1
    · have unf : ∀ (el sp : List (DataW H)), (DataW.slice el sp).weights Try.prog 22 = (el.length + sp.length) * Try.prog.bytesOf 52 :: (DataW.weightsAll Try.prog 52 el ++ DataW.weightsAll Try.prog 52 sp) := fun el sp => by simp only [DataW.weights, Try.underlying22]
      rw [unf]
      exact List.mem_cons_of_mem _ (List.mem_append_left _ (weights_all (List.mem_map.2 ⟨i, List.mem_range.2 hi, rfl⟩) hq))

theorem array3 {α : Type} {cs : Array α} (h : cs.size = 3) : ∃ c0 c1 c2, cs = #[c0, c1, c2] := by
  obtain ⟨l⟩ := cs
  match l, h with
  | [c0, c1, c2], _ => exact ⟨c0, c1, c2, rfl⟩

theorem open_adapter {b0 : Nat} {r : Reach} {v : Value} {dd : DataW H} {p : List MemPlace} (hv : Value.okWide Try.prog W r b0 24 v) (h : DataW.Trod enc Try.prog W 0 (fun _ => true) true 24 v dd p) :
    ∃ (R S : Int) (L : SL) (Y : Nat → Nat → SL) (m : AdV), v = .agg #[.int .i64 R, .int .i64 S, .slice L.a L.n L.c] ∧ (Lit.int .i64 R).wf = true ∧ (Lit.int .i64 S).wf = true ∧ AdAt W L Y m ∧ m.ln ≤ 9223372036854775807 ∧ (Small dd 24 → m.ln ≤ 20 → FitsA m) := by
  obtain ⟨cs, rfl, hsz⟩ := okWide_struct Try.underlying24 hv
  obtain ⟨c0, c1, c2, rfl⟩ := array3 (hsz.trans ce24)
  obtain ⟨fuel, hf⟩ := h
  have hf' : DataW.trod enc Try.prog W 0 (fun _ => true) true fuel 24 [c0, c1, c2] = some (dd, p) := by simpa [Value.cells] using hf
  obtain ⟨xs, n, -, ex, -, hlen, hg⟩ := DataW.trod_struct Try.underlying24 hf'
  have hl : xs.length = 3 := hlen.trans (by rfl)
  match xs, hl with
  | [x0, x1, x2], _ =>
  have g0 : DataW.trod enc Try.prog W 0 (fun _ => true) true n 3 [c0] = some x0 := by rw [show [c0] = ([c0, c1, c2].drop 0).take (Try.prog.cellsOf 3) by rw [cells3]; rfl]; exact hg 0 _ rfl
  have g1 : DataW.trod enc Try.prog W 0 (fun _ => true) true n 3 [c1] = some x1 := by rw [show [c1] = ([c0, c1, c2].drop 1).take (Try.prog.cellsOf 3) by rw [cells3]; rfl]; exact hg 1 _ rfl
  have g2 : DataW.trod enc Try.prog W 0 (fun _ => true) true n 22 [c2] = some x2 := by rw [show [c2] = ([c0, c1, c2].drop 2).take (Try.prog.cellsOf 22) by rw [ce22]; rfl]; exact hg 2 _ rfl
  obtain ⟨R, eR, -, wR⟩ := DataW.trod_int Try.underlying3 g0
  obtain ⟨S, eS, -, wS⟩ := DataW.trod_int Try.underlying3 g1
  obtain rfl : c0 = .int .i64 R := by simpa using eR
  obtain rfl : c1 = .int .i64 S := by simpa using eS
  obtain ⟨L, F, eL, L1, L2, L3, L4, L5, L6, wL⟩ := open_l g2
  subst eL
  refine ⟨R, S, L, fun i => (F i).Y, ⟨L.n, fun i => (F i).f⟩, rfl, wR, wS, ⟨rfl, L1, L2, L3, L5, L6⟩, L4, fun hs h20 => ?_⟩
  have ed : dd = .agg [x0.1, x1.1, x2.1] := congrArg Prod.fst ex
  rw [ed] at hs
  exact ⟨h20, wL (small_field Try.underlying24 hs (j := 2) rfl rfl)⟩
end




def encD (i : Nat) : Option Nat := match i with | 0 => some 29 | 1 => some 30 | 2 => some 31 | 3 => some 32 | 4 => some 28 | 5 => some 33 | 6 => some 34 | 7 => some 7 | 8 => some 8 | _ => none
theorem encD_inj : ∀ i, i < 9 → ∀ j, j < 9 → encD i = encD j → encD i ≠ none → i = j := by decide
theorem encD_lt : ∀ i, i < 9 → ∀ d, encD i = some d → d < 35 := by
  intro i hi d h
  have : ∀ i, i < 9 → (encD i).all (fun d => decide (d < 35)) = true := by decide
  have := this i hi
  rw [h] at this
  simpa using this
def encF (R S E : Int) (TT : ByteArray) (MV CV : Value) (m : AdV) (i : Nat) (q : Value) (w : World) : Prop := match i with
  | 0 => q = MV
  | 1 => ∃ (L : SL) (Y : Nat → Nat → SL), q = .agg #[.int .i64 R, .int .i64 S, .slice L.a L.n L.c] ∧ AdAt w L Y m
  | 2 => q = CV
  | 3 => q = .tuple #[.string TT, .int .i64 E]
  | 4 => q = .tuple #[.string TT, .int .i64 E]
  | 5 => q = .string TT
  | 6 => q = .int .i64 E
  | 7 => q = .string TT
  | 8 => q = .int .i64 E
  | _ => True
theorem encF_below {R S E : Int} {TT : ByteArray} {MV CV : Value} {m : AdV} {i : Nat} {q : Value} {w w' : World} (h : encF R S E TT MV CV m i q w) (hb : Below w.heap.size w w') : encF R S E TT MV CV m i q w' := by
  unfold encF at h ⊢
  split
  · exact h
  · obtain ⟨L, Y, f1, f2⟩ := h
    exact ⟨L, Y, f1, f2.below hb⟩
  · exact h
  · exact h
  · exact h
  · exact h
  · exact h
  · exact h
  · exact h
  · trivial

set_option maxHeartbeats 4000000 in
theorem enc_region {id : Nat} {ops : Array Oper} {Q : Exit → Act → World → Prop} {a0 : Act} {w0 : World} (R S E : Int) (TT : ByteArray) (MV CV : Value) (m : AdV) (hlow : lowB ops = true) (hsz : ops.size = 9)
    (o0 : OpIn ops 0 (some 29) (.load 24 (.tmp 3)) none []) (o1 : OpIn ops 1 (some 30) (.call { callee := .value (.func 9), args := #[.tmp 29], argTypes := #[24] }) none [0]) (o2 : OpIn ops 2 (some 31) (.load 26 (.tmp 4)) none []) (o3 : OpIn ops 3 (some 32) (.call { callee := .value (.func 10), args := #[.tmp 30, .tmp 31], argTypes := #[24, 26] }) none [1, 2]) (o4 : OpIn ops 4 (some 28) (.move (.tmp 32)) none [3]) (o5 : OpIn ops 5 (some 33) (.extract (.tmp 28) 0) none [4]) (o6 : OpIn ops 6 (some 34) (.extract (.tmp 28) 1) none [4]) (o7 : OpIn ops 7 (some 7) (.assign (.tmp 33)) none [5]) (o8 : OpIn ops 8 (some 8) (.assign (.tmp 34)) none [6])
    (ab cb : Nat) (ha : a0.tmps.getD 3 undef = .pointer (some ⟨ab, 0, none⟩)) (hc : a0.tmps.getD 4 undef = .pointer (some ⟨cb, 0, none⟩))
    (l24 : ∀ W, Below w0.heap.size w0 W → (Instr.loadAt 24 (.pointer (some ⟨ab, 0, none⟩))).run Try.prog W = .ok MV W) (l26 : ∀ W, Below w0.heap.size w0 W → (Instr.loadAt 26 (.pointer (some ⟨cb, 0, none⟩))).run Try.prog W = .ok CV W)
    (k9 : ∀ W, Below w0.heap.size w0 W → Calls Try.prog 9 #[MV] W fun e W' => ∃ (L : SL) (Y : Nat → Nat → SL), e = .returned (.agg #[.int .i64 R, .int .i64 S, .slice L.a L.n L.c]) ∧ AdAt W' L Y m ∧ Below W.heap.size W W')
    (k10 : ∀ W (L : SL) (Y : Nat → Nat → SL), Below w0.heap.size w0 W → AdAt W L Y m → Calls Try.prog 10 #[.agg #[.int .i64 R, .int .i64 S, .slice L.a L.n L.c], CV] W fun e W' => e = .returned (.tuple #[.string TT, .int .i64 E]) ∧ Below W.heap.size W W')
    (hs : 35 ≤ a0.tmps.size)
    (fin : ∀ a w, a.tmps.size = a0.tmps.size → a.defers = a0.defers → (∀ s, (∀ i, i < 9 → encD i ≠ some s) → a.tmps.getD s undef = a0.tmps.getD s undef) → Below w0.heap.size w0 w → (∀ i d, i < 9 → encD i = some d → encF R S E TT MV CV m i (a.tmps.getD d undef) w) → Q .normal a w) : (Code.region id ops true).wp Try.prog Q a0 w0 := by
  have r9 : ∀ args w, (callFunc 9 args).run Try.prog w = .ok (.enter 9 args) w := enters Try.func9 (by kernel_rfl) rfl
  have r10 : ∀ args w, (callFunc 10 args).run Try.prog w = .ok (.enter 10 args) w := enters Try.func10 (by kernel_rfl) rfl
  refine wp_region_inv2 (by kernel_rfl) hlow (Inv 9 encD a0 (fun _ _ w => Below w0.heap.size w0 w) (fun _ => encF R S E TT MV CV m)) (Inv.start ⟨rfl, rfl, rfl, Nat.le_refl _, fun _ _ => rfl⟩) ?_ ?_
  · intro l i o a w ho hl hcl hdep hI
    have hi : i < 9 := by rw [← hsz]; exact (Array.getElem?_eq_some_iff.1 ho).1
    have ev : ∀ (s : Nat), a.eval (.tmp s) = a.tmps.getD s undef := fun _ => rfl
    have evf : ∀ f, a.eval (.func f) = .func (.func f) #[] #[] := fun _ => rfl
    have evc : ∀ c : Value, a.eval (.const c) = c := fun _ => rfl
    have inj : ∀ d, encD i = some d → ∀ j d', j < 9 → encD j = some d' → j ≠ i → d' ≠ d := fun d hd j d' hj hd' hne e => hne (encD_inj j hj i hi (by rw [hd', hd, e]) (by rw [hd']; simp))
    have kp : ∀ s, (∀ i, i < 9 → encD i ≠ some s) → a.tmps.getD s undef = a0.tmps.getD s undef := hI.kept
    have oth : ∀ j, j ≠ i → (l j || j == i) = l j := fun j hj => by rw [show (j == i) = false by simp [hj], Bool.or_false]
    have get : ∀ (d : Nat) (v : Value) (s : Nat), d < 35 → s ≠ d → (a.put (some d) v).tmps.getD s undef = a.tmps.getD s undef := fun d v s hd hs' => by
      rw [get_put a d v s (by rw [hI.size]; exact Nat.lt_of_lt_of_le hd hs), if_neg hs']
    have hw : Below w0.heap.size w0 w := hI.world
    have go : ∀ {d : Nat} {v : Value} {w' : World}, encD i = some d → Below w.heap.size w w' → encF R S E TT MV CV m i v w' → Inv 9 encD a0 (fun _ _ w => Below w0.heap.size w0 w) (fun _ => encF R S E TT MV CV m) (fun j => l j || j == i) (a.put (some d) v) w' := by
      intro d v w' hD hb hF
      exact hI.put hi hD (Nat.lt_of_lt_of_le (encD_lt i hi d hD) hs) (inj d hD) (below_then hw hb) hF (fun j u _ _ _ hf => encF_below hf hb)
    rcases (show i = 0 ∨ i = 1 ∨ i = 2 ∨ i = 3 ∨ i = 4 ∨ i = 5 ∨ i = 6 ∨ i = 7 ∨ i = 8 by omega) with rfl | rfl | rfl | rfl | rfl | rfl | rfl | rfl | rfl
    · obtain ⟨o', e1, e2, e3, e4, e5⟩ := o0
      obtain rfl := Option.some.inj (ho.symm.trans e1)
      have dp := dep_of' e5 hdep
      refine wpOp_value (v := MV) (w' := w) ho e4 (by simp [execOp, e3, ev, evc, kp 3 (by decide), ha, l24 w hw]) (by rw [e2]; exact go rfl (Below.refl _ _) rfl)
    · obtain ⟨o', e1, e2, e3, e4, e5⟩ := o1
      obtain rfl := Option.some.inj (ho.symm.trans e1)
      have dp := dep_of' e5 hdep
      have V0 : a.tmps.getD 29 undef = MV := hI.val 0 29 (by decide) rfl (dp 0 (by decide))
      refine wpOp_call (f := 9) (args := #[MV]) ho e4 (by simp [execOp, e3, resolve, invoke, Deferred.ofValue, r9, ev, evf, evc, V0]) ((k9 w hw).mono ?_)
      rintro e W' ⟨L', Y', rfl, ha', hbw⟩
      refine ⟨_, rfl, ?_⟩
      rw [e2]
      exact go rfl hbw ⟨L', Y', rfl, ha'⟩
    · obtain ⟨o', e1, e2, e3, e4, e5⟩ := o2
      obtain rfl := Option.some.inj (ho.symm.trans e1)
      have dp := dep_of' e5 hdep
      refine wpOp_value (v := CV) (w' := w) ho e4 (by simp [execOp, e3, ev, evc, kp 4 (by decide), hc, l26 w hw]) (by rw [e2]; exact go rfl (Below.refl _ _) rfl)
    · obtain ⟨o', e1, e2, e3, e4, e5⟩ := o3
      obtain rfl := Option.some.inj (ho.symm.trans e1)
      have dp := dep_of' e5 hdep
      obtain ⟨L1, Y1, V1, ad1⟩ : ∃ (L : SL) (Y : Nat → Nat → SL), a.tmps.getD 30 undef = .agg #[.int .i64 R, .int .i64 S, .slice L.a L.n L.c] ∧ AdAt w L Y m := hI.val 1 30 (by decide) rfl (dp 1 (by decide))
      have V2 : a.tmps.getD 31 undef = CV := hI.val 2 31 (by decide) rfl (dp 2 (by decide))
      refine wpOp_call (f := 10) (args := #[.agg #[.int .i64 R, .int .i64 S, .slice L1.a L1.n L1.c], CV]) ho e4 (by simp [execOp, e3, resolve, invoke, Deferred.ofValue, r10, ev, evf, evc, V1, V2]) ((k10 w L1 Y1 hw ad1).mono ?_)
      rintro e W' ⟨rfl, hbw⟩
      refine ⟨_, rfl, ?_⟩
      rw [e2]
      exact go rfl hbw rfl
    · obtain ⟨o', e1, e2, e3, e4, e5⟩ := o4
      obtain rfl := Option.some.inj (ho.symm.trans e1)
      have dp := dep_of' e5 hdep
      have V3 : a.tmps.getD 32 undef = .tuple #[.string TT, .int .i64 E] := hI.val 3 32 (by decide) rfl (dp 3 (by decide))
      refine wpOp_value (v := .tuple #[.string TT, .int .i64 E]) (w' := w) ho e4 (by simp [execOp, e3, ev, evc, V3]) (by rw [e2]; exact go rfl (Below.refl _ _) rfl)
    · obtain ⟨o', e1, e2, e3, e4, e5⟩ := o5
      obtain rfl := Option.some.inj (ho.symm.trans e1)
      have dp := dep_of' e5 hdep
      have V4 : a.tmps.getD 28 undef = .tuple #[.string TT, .int .i64 E] := hI.val 4 28 (by decide) rfl (dp 4 (by decide))
      refine wpOp_value (v := .string TT) (w' := w) ho e4 (by simp [execOp, e3, ev, evc, V4, run_ext0]) (by rw [e2]; exact go rfl (Below.refl _ _) rfl)
    · obtain ⟨o', e1, e2, e3, e4, e5⟩ := o6
      obtain rfl := Option.some.inj (ho.symm.trans e1)
      have dp := dep_of' e5 hdep
      have V4 : a.tmps.getD 28 undef = .tuple #[.string TT, .int .i64 E] := hI.val 4 28 (by decide) rfl (dp 4 (by decide))
      refine wpOp_value (v := .int .i64 E) (w' := w) ho e4 (by simp [execOp, e3, ev, evc, V4, run_ext1]) (by rw [e2]; exact go rfl (Below.refl _ _) rfl)
    · obtain ⟨o', e1, e2, e3, e4, e5⟩ := o7
      obtain rfl := Option.some.inj (ho.symm.trans e1)
      have dp := dep_of' e5 hdep
      have V5 : a.tmps.getD 33 undef = .string TT := hI.val 5 33 (by decide) rfl (dp 5 (by decide))
      refine wpOp_value (v := .string TT) (w' := w) ho e4 (by simp [execOp, e3, ev, evc, V5]) (by rw [e2]; exact go rfl (Below.refl _ _) rfl)
    · obtain ⟨o', e1, e2, e3, e4, e5⟩ := o8
      obtain rfl := Option.some.inj (ho.symm.trans e1)
      have dp := dep_of' e5 hdep
      have V6 : a.tmps.getD 34 undef = .int .i64 E := hI.val 6 34 (by decide) rfl (dp 6 (by decide))
      refine wpOp_value (v := .int .i64 E) (w' := w) ho e4 (by simp [execOp, e3, ev, evc, V6]) (by rw [e2]; exact go rfl (Below.refl _ _) rfl)
  · intro l a w hall hI
    have all : ∀ j, j < 9 → l j = true := fun j hj => hall j (by rw [hsz]; exact hj)
    exact fin a w hI.size hI.defers hI.kept hI.world (fun i d hi hD => hI.val i d hi hD (all i hi))
def rshD (i : Nat) : Option Nat := match i with | 0 => some 44 | 1 => some 45 | 2 => some 46 | 3 => some 47 | 4 => some 48 | 5 => some 49 | 6 => some 50 | 7 => some 51 | 8 => some 52 | 9 => some 53 | 10 => some 43 | 11 => some 54 | 12 => some 55 | 13 => some 11 | 14 => none | 15 => some 12 | _ => none
theorem rshD_inj : ∀ i, i < 16 → ∀ j, j < 16 → rshD i = rshD j → rshD i ≠ none → i = j := by decide
theorem rshD_lt : ∀ i, i < 16 → ∀ d, rshD i = some d → d < 56 := by
  intro i hi d h
  have : ∀ i, i < 16 → (rshD i).all (fun d => decide (d < 56)) = true := by decide
  have := this i hi
  rw [h] at this
  simpa using this
def rshF (ab : Nat) (R S R' S' E : Int) (MV CV : Value) (zs : List Int) (m m2 : AdV) (i : Nat) (q : Value) (w : World) : Prop := match i with
  | 0 => q = .pointer (some ⟨ab, 0, none⟩)
  | 1 => q = .int .i64 R
  | 2 => q = .pointer (some ⟨ab, 1, none⟩)
  | 3 => q = .int .i64 S
  | 4 => q = CV
  | 5 => q = MV
  | 6 => ∃ (L : SL) (Y : Nat → Nat → SL), q = .agg #[.int .i64 R, .int .i64 S, .slice L.a L.n L.c] ∧ AdAt w L Y m
  | 7 => q = CV
  | 8 => ∃ s : SL, q = .slice s.a s.n s.c ∧ IsS w s zs
  | 9 => ∃ (L : SL) (Y : Nat → Nat → SL), q = .tuple #[.agg #[.int .i64 R', .int .i64 S', .slice L.a L.n L.c], .int .i64 E] ∧ AdAt w L Y m2
  | 10 => ∃ (L : SL) (Y : Nat → Nat → SL), q = .tuple #[.agg #[.int .i64 R', .int .i64 S', .slice L.a L.n L.c], .int .i64 E] ∧ AdAt w L Y m2
  | 11 => ∃ (L : SL) (Y : Nat → Nat → SL), q = .agg #[.int .i64 R', .int .i64 S', .slice L.a L.n L.c] ∧ AdAt w L Y m2
  | 12 => q = .int .i64 E
  | 13 => True
  | 14 => True
  | 15 => q = .int .i64 E
  | _ => True
theorem rshF_below {ab : Nat} {R S R' S' E : Int} {MV CV : Value} {zs : List Int} {m m2 : AdV} {i : Nat} {q : Value} {w w' : World} (h : rshF ab R S R' S' E MV CV zs m m2 i q w) (hb : Below w.heap.size w w') : rshF ab R S R' S' E MV CV zs m m2 i q w' := by
  unfold rshF at h ⊢
  split
  · exact h
  · exact h
  · exact h
  · exact h
  · exact h
  · exact h
  · obtain ⟨L, Y, f1, f2⟩ := h
    exact ⟨L, Y, f1, f2.below hb⟩
  · exact h
  · obtain ⟨s, f1, f2⟩ := h
    exact ⟨s, f1, f2.below hb⟩
  · obtain ⟨L, Y, f1, f2⟩ := h
    exact ⟨L, Y, f1, f2.below hb⟩
  · obtain ⟨L, Y, f1, f2⟩ := h
    exact ⟨L, Y, f1, f2.below hb⟩
  · obtain ⟨L, Y, f1, f2⟩ := h
    exact ⟨L, Y, f1, f2.below hb⟩
  · exact h
  · exact h
  · exact h
  · exact h
  · trivial
theorem rshF_other {ab : Nat} {R S R' S' E : Int} {MV CV : Value} {zs : List Int} {m m2 : AdV} {i : Nat} {q : Value} {w w' : World} {G : Nat} (h : rshF ab R S R' S' E MV CV zs m m2 i q w) (o : Only G w w') (qz : Blk 24 w G #[.int .i64 0, .int .i64 0, .slice none 0 0]) : rshF ab R S R' S' E MV CV zs m m2 i q w' := by
  unfold rshF at h ⊢
  split
  · exact h
  · exact h
  · exact h
  · exact h
  · exact h
  · exact h
  · obtain ⟨L, Y, f1, f2⟩ := h
    exact ⟨L, Y, f1, f2.other24 o qz⟩
  · exact h
  · obtain ⟨s, f1, f2⟩ := h
    exact ⟨s, f1, f2.other24 o qz⟩
  · obtain ⟨L, Y, f1, f2⟩ := h
    exact ⟨L, Y, f1, f2.other24 o qz⟩
  · obtain ⟨L, Y, f1, f2⟩ := h
    exact ⟨L, Y, f1, f2.other24 o qz⟩
  · obtain ⟨L, Y, f1, f2⟩ := h
    exact ⟨L, Y, f1, f2.other24 o qz⟩
  · exact h
  · exact h
  · exact h
  · exact h
  · trivial
def rshR (w0 : World) (ab : Nat) (R S R' S' E : Int) (MV CV : Value) (zs : List Int) (m m2 : AdV) (l : Nat → Bool) (a : Act) (w : World) : Prop := Below w0.heap.size w0 w ∧ ∃ G : Nat, l 13 = true → a.tmps.getD 11 undef = .pointer (some ⟨G, 0, none⟩) ∧ w0.heap.size ≤ G ∧ (l 14 = false → Blk 24 w G #[.int .i64 0, .int .i64 0, .slice none 0 0]) ∧ (l 14 = true → ∃ (L : SL) (Y : Nat → Nat → SL), Blk 24 w G #[.int .i64 R', .int .i64 S', .slice L.a L.n L.c] ∧ AdAt w L Y m2)

set_option maxHeartbeats 4000000 in
theorem rsh_region {id : Nat} {ops : Array Oper} {Q : Exit → Act → World → Prop} {a0 : Act} {w0 : World} (ab : Nat) (R S R' S' E : Int) (MV CV : Value) (zs : List Int) (m m2 : AdV) (hlow : lowB ops = true) (hsz : ops.size = 16)
    (o0 : OpIn ops 0 (some 44) (.fieldAddr 24 (.tmp 3) 0) none []) (o1 : OpIn ops 1 (some 45) (.load 3 (.tmp 44)) none [0]) (o2 : OpIn ops 2 (some 46) (.fieldAddr 24 (.tmp 3) 1) none []) (o3 : OpIn ops 3 (some 47) (.load 3 (.tmp 46)) none [2]) (o4 : OpIn ops 4 (some 48) (.load 26 (.tmp 4)) none []) (o5 : OpIn ops 5 (some 49) (.load 24 (.tmp 3)) none []) (o6 : OpIn ops 6 (some 50) (.call { callee := .value (.func 9), args := #[.tmp 49], argTypes := #[24] }) none [5]) (o7 : OpIn ops 7 (some 51) (.load 26 (.tmp 4)) none []) (o8 : OpIn ops 8 (some 52) (.call { callee := .value (.func 15), args := #[.tmp 50, .tmp 51], argTypes := #[24, 26] }) none [6, 7]) (o9 : OpIn ops 9 (some 53) (.call { callee := .value (.func 20), args := #[.tmp 45, .tmp 47, .tmp 48, .tmp 52], argTypes := #[3, 3, 26, 33] }) none [1, 3, 4, 8]) (o10 : OpIn ops 10 (some 43) (.move (.tmp 53)) none [9]) (o11 : OpIn ops 11 (some 54) (.extract (.tmp 43) 0) none [10]) (o12 : OpIn ops 12 (some 55) (.extract (.tmp 43) 1) none [10]) (o13 : OpIn ops 13 (some 11) (.alloc 24) none []) (o14 : OpIn ops 14 none (.store 24 (.tmp 11) (.tmp 54)) none [11, 13]) (o15 : OpIn ops 15 (some 12) (.assign (.tmp 55)) none [12])
    (cb : Nat) (ha : a0.tmps.getD 3 undef = .pointer (some ⟨ab, 0, none⟩)) (hc : a0.tmps.getD 4 undef = .pointer (some ⟨cb, 0, none⟩)) (hR : ∀ W, Below w0.heap.size w0 W → W.cell? ⟨ab, 0, none⟩ = some (.int .i64 R)) (hS : ∀ W, Below w0.heap.size w0 W → W.cell? ⟨ab, 1, none⟩ = some (.int .i64 S))
    (l24 : ∀ W, Below w0.heap.size w0 W → (Instr.loadAt 24 (.pointer (some ⟨ab, 0, none⟩))).run Try.prog W = .ok MV W) (l26 : ∀ W, Below w0.heap.size w0 W → (Instr.loadAt 26 (.pointer (some ⟨cb, 0, none⟩))).run Try.prog W = .ok CV W)
    (k9 : ∀ W, Below w0.heap.size w0 W → Calls Try.prog 9 #[MV] W fun e W' => ∃ (L : SL) (Y : Nat → Nat → SL), e = .returned (.agg #[.int .i64 R, .int .i64 S, .slice L.a L.n L.c]) ∧ AdAt W' L Y m ∧ Below W.heap.size W W')
    (k15 : ∀ W (L : SL) (Y : Nat → Nat → SL), Below w0.heap.size w0 W → AdAt W L Y m → Calls Try.prog 15 #[.agg #[.int .i64 R, .int .i64 S, .slice L.a L.n L.c], CV] W fun e W' => ∃ s : SL, e = .returned (.slice s.a s.n s.c) ∧ IsS W' s zs ∧ Below W.heap.size W W')
    (k20 : ∀ W (s : SL), Below w0.heap.size w0 W → IsS W s zs → Calls Try.prog 20 #[.int .i64 R, .int .i64 S, CV, .slice s.a s.n s.c] W fun e W' => ∃ (L : SL) (Y : Nat → Nat → SL), e = .returned (.tuple #[.agg #[.int .i64 R', .int .i64 S', .slice L.a L.n L.c], .int .i64 E]) ∧ AdAt W' L Y m2 ∧ Below W.heap.size W W')
    (hs : 56 ≤ a0.tmps.size)
    (fin : ∀ a w, a.tmps.size = a0.tmps.size → a.defers = a0.defers → (∀ s, (∀ i, i < 16 → rshD i ≠ some s) → a.tmps.getD s undef = a0.tmps.getD s undef) → Below w0.heap.size w0 w → (∀ i d, i < 16 → rshD i = some d → rshF ab R S R' S' E MV CV zs m m2 i (a.tmps.getD d undef) w) → (∃ G : Nat, a.tmps.getD 11 undef = .pointer (some ⟨G, 0, none⟩) ∧ w0.heap.size ≤ G ∧ ∃ (L : SL) (Y : Nat → Nat → SL), Blk 24 w G #[.int .i64 R', .int .i64 S', .slice L.a L.n L.c] ∧ AdAt w L Y m2) → Q .normal a w) : (Code.region id ops true).wp Try.prog Q a0 w0 := by
  have r9 : ∀ args w, (callFunc 9 args).run Try.prog w = .ok (.enter 9 args) w := enters Try.func9 (by kernel_rfl) rfl
  have r15 : ∀ args w, (callFunc 15 args).run Try.prog w = .ok (.enter 15 args) w := enters Try.func15 (by kernel_rfl) rfl
  have r20 : ∀ args w, (callFunc 20 args).run Try.prog w = .ok (.enter 20 args) w := enters Try.func20 (by kernel_rfl) rfl
  refine wp_region_inv2 (by kernel_rfl) hlow (Inv 16 rshD a0 (rshR w0 ab R S R' S' E MV CV zs m m2) (fun _ => rshF ab R S R' S' E MV CV zs m m2)) (Inv.start ⟨⟨rfl, rfl, rfl, Nat.le_refl _, fun _ _ => rfl⟩, 0, fun h => by cases h⟩) ?_ ?_
  · intro l i o a w ho hl hcl hdep hI
    have hi : i < 16 := by rw [← hsz]; exact (Array.getElem?_eq_some_iff.1 ho).1
    have ev : ∀ (s : Nat), a.eval (.tmp s) = a.tmps.getD s undef := fun _ => rfl
    have evf : ∀ f, a.eval (.func f) = .func (.func f) #[] #[] := fun _ => rfl
    have evc : ∀ c : Value, a.eval (.const c) = c := fun _ => rfl
    have inj : ∀ d, rshD i = some d → ∀ j d', j < 16 → rshD j = some d' → j ≠ i → d' ≠ d := fun d hd j d' hj hd' hne e => hne (rshD_inj j hj i hi (by rw [hd', hd, e]) (by rw [hd']; simp))
    have kp : ∀ s, (∀ i, i < 16 → rshD i ≠ some s) → a.tmps.getD s undef = a0.tmps.getD s undef := hI.kept
    have oth : ∀ j, j ≠ i → (l j || j == i) = l j := fun j hj => by rw [show (j == i) = false by simp [hj], Bool.or_false]
    have get : ∀ (d : Nat) (v : Value) (s : Nat), d < 56 → s ≠ d → (a.put (some d) v).tmps.getD s undef = a.tmps.getD s undef := fun d v s hd hs' => by
      rw [get_put a d v s (by rw [hI.size]; exact Nat.lt_of_lt_of_le hd hs), if_neg hs']
    obtain ⟨hw, G, hG⟩ := hI.world
    have go : ∀ {d : Nat} {v : Value} {w' : World}, rshD i = some d → i ≠ 13 → i ≠ 14 → d ≠ 11 → Below w.heap.size w w' → rshF ab R S R' S' E MV CV zs m m2 i v w' → (l 13 = true → l 14 = true → w' = w ∨ False) → Inv 16 rshD a0 (rshR w0 ab R S R' S' E MV CV zs m m2) (fun _ => rshF ab R S R' S' E MV CV zs m m2) (fun j => l j || j == i) (a.put (some d) v) w' := by
      intro d v w' hD n1 n2 n3 hb hF hst
      refine hI.put hi hD (Nat.lt_of_lt_of_le (rshD_lt i hi d hD) hs) (inj d hD) ⟨below_then hw hb, G, fun h => ?_⟩ hF (fun j u _ _ _ hf => rshF_below hf hb)
      dsimp only at h ⊢
      rw [oth 13 (Ne.symm n1)] at h
      rw [oth 14 (Ne.symm n2), get d v 11 (rshD_lt i hi d hD) (Ne.symm n3)]
      obtain ⟨g1, g2, g3, g4⟩ := hG h
      refine ⟨g1, g2, fun h' => (g3 h').kept hb, fun h' => ?_⟩
      rcases hst h h' with e | e
      · rw [e]; exact g4 h'
      · cases e
    rcases (show i = 0 ∨ i = 1 ∨ i = 2 ∨ i = 3 ∨ i = 4 ∨ i = 5 ∨ i = 6 ∨ i = 7 ∨ i = 8 ∨ i = 9 ∨ i = 10 ∨ i = 11 ∨ i = 12 ∨ i = 13 ∨ i = 14 ∨ i = 15 by omega) with rfl | rfl | rfl | rfl | rfl | rfl | rfl | rfl | rfl | rfl | rfl | rfl | rfl | rfl | rfl | rfl
    · obtain ⟨o', e1, e2, e3, e4, e5⟩ := o0
      obtain rfl := Option.some.inj (ho.symm.trans e1)
      have dp := dep_of' e5 hdep
      refine wpOp_value (v := .pointer (some ⟨ab, 0, none⟩)) (w' := w) ho e4 (by simp [execOp, e3, ev, evc, kp 3 (by decide), ha, run_ad0]) (by rw [e2]; exact go rfl (by decide) (by decide) (by decide) (Below.refl _ _) rfl (fun _ _ => .inl rfl))
    · obtain ⟨o', e1, e2, e3, e4, e5⟩ := o1
      obtain rfl := Option.some.inj (ho.symm.trans e1)
      have dp := dep_of' e5 hdep
      have V0 : a.tmps.getD 44 undef = .pointer (some ⟨ab, 0, none⟩) := hI.val 0 44 (by decide) rfl (dp 0 (by decide))
      refine wpOp_value (v := .int .i64 R) (w' := w) ho e4 (by simp [execOp, e3, ev, evc, V0, run_load3 (hR w hw)]) (by rw [e2]; exact go rfl (by decide) (by decide) (by decide) (Below.refl _ _) rfl (fun _ _ => .inl rfl))
    · obtain ⟨o', e1, e2, e3, e4, e5⟩ := o2
      obtain rfl := Option.some.inj (ho.symm.trans e1)
      have dp := dep_of' e5 hdep
      refine wpOp_value (v := .pointer (some ⟨ab, 1, none⟩)) (w' := w) ho e4 (by simp [execOp, e3, ev, evc, kp 3 (by decide), ha, run_ad1]) (by rw [e2]; exact go rfl (by decide) (by decide) (by decide) (Below.refl _ _) rfl (fun _ _ => .inl rfl))
    · obtain ⟨o', e1, e2, e3, e4, e5⟩ := o3
      obtain rfl := Option.some.inj (ho.symm.trans e1)
      have dp := dep_of' e5 hdep
      have V2 : a.tmps.getD 46 undef = .pointer (some ⟨ab, 1, none⟩) := hI.val 2 46 (by decide) rfl (dp 2 (by decide))
      refine wpOp_value (v := .int .i64 S) (w' := w) ho e4 (by simp [execOp, e3, ev, evc, V2, run_load3 (hS w hw)]) (by rw [e2]; exact go rfl (by decide) (by decide) (by decide) (Below.refl _ _) rfl (fun _ _ => .inl rfl))
    · obtain ⟨o', e1, e2, e3, e4, e5⟩ := o4
      obtain rfl := Option.some.inj (ho.symm.trans e1)
      have dp := dep_of' e5 hdep
      refine wpOp_value (v := CV) (w' := w) ho e4 (by simp [execOp, e3, ev, evc, kp 4 (by decide), hc, l26 w hw]) (by rw [e2]; exact go rfl (by decide) (by decide) (by decide) (Below.refl _ _) rfl (fun _ _ => .inl rfl))
    · obtain ⟨o', e1, e2, e3, e4, e5⟩ := o5
      obtain rfl := Option.some.inj (ho.symm.trans e1)
      have dp := dep_of' e5 hdep
      refine wpOp_value (v := MV) (w' := w) ho e4 (by simp [execOp, e3, ev, evc, kp 3 (by decide), ha, l24 w hw]) (by rw [e2]; exact go rfl (by decide) (by decide) (by decide) (Below.refl _ _) rfl (fun _ _ => .inl rfl))
    · obtain ⟨o', e1, e2, e3, e4, e5⟩ := o6
      obtain rfl := Option.some.inj (ho.symm.trans e1)
      have dp := dep_of' e5 hdep
      have V5 : a.tmps.getD 49 undef = MV := hI.val 5 49 (by decide) rfl (dp 5 (by decide))
      refine wpOp_call (f := 9) (args := #[MV]) ho e4 (by simp [execOp, e3, resolve, invoke, Deferred.ofValue, r9, ev, evf, evc, V5]) ((k9 w hw).mono ?_)
      rintro e W' ⟨L', Y', rfl, ha', hbw⟩
      refine ⟨_, rfl, ?_⟩
      rw [e2]
      exact go rfl (by decide) (by decide) (by decide) hbw ⟨L', Y', rfl, ha'⟩ (fun h h' => absurd h' (fun z0 => by have z1 := hcl.dep' o14 z0 11 (by decide); have z2 := hcl.dep' o11 z1 10 (by decide); have z3 := hcl.dep' o10 z2 9 (by decide); have z4 := hcl.dep' o9 z3 8 (by decide); have z5 := hcl.dep' o8 z4 6 (by decide); rw [hl] at z5; cases z5))
    · obtain ⟨o', e1, e2, e3, e4, e5⟩ := o7
      obtain rfl := Option.some.inj (ho.symm.trans e1)
      have dp := dep_of' e5 hdep
      refine wpOp_value (v := CV) (w' := w) ho e4 (by simp [execOp, e3, ev, evc, kp 4 (by decide), hc, l26 w hw]) (by rw [e2]; exact go rfl (by decide) (by decide) (by decide) (Below.refl _ _) rfl (fun _ _ => .inl rfl))
    · obtain ⟨o', e1, e2, e3, e4, e5⟩ := o8
      obtain rfl := Option.some.inj (ho.symm.trans e1)
      have dp := dep_of' e5 hdep
      obtain ⟨L6, Y6, V6, ad6⟩ : ∃ (L : SL) (Y : Nat → Nat → SL), a.tmps.getD 50 undef = .agg #[.int .i64 R, .int .i64 S, .slice L.a L.n L.c] ∧ AdAt w L Y m := hI.val 6 50 (by decide) rfl (dp 6 (by decide))
      have V7 : a.tmps.getD 51 undef = CV := hI.val 7 51 (by decide) rfl (dp 7 (by decide))
      refine wpOp_call (f := 15) (args := #[.agg #[.int .i64 R, .int .i64 S, .slice L6.a L6.n L6.c], CV]) ho e4 (by simp [execOp, e3, resolve, invoke, Deferred.ofValue, r15, ev, evf, evc, V6, V7]) ((k15 w L6 Y6 hw ad6).mono ?_)
      rintro e W' ⟨s', rfl, is', hbw⟩
      refine ⟨_, rfl, ?_⟩
      rw [e2]
      exact go rfl (by decide) (by decide) (by decide) hbw ⟨s', rfl, is'⟩ (fun h h' => absurd h' (fun z0 => by have z1 := hcl.dep' o14 z0 11 (by decide); have z2 := hcl.dep' o11 z1 10 (by decide); have z3 := hcl.dep' o10 z2 9 (by decide); have z4 := hcl.dep' o9 z3 8 (by decide); rw [hl] at z4; cases z4))
    · obtain ⟨o', e1, e2, e3, e4, e5⟩ := o9
      obtain rfl := Option.some.inj (ho.symm.trans e1)
      have dp := dep_of' e5 hdep
      have V1 : a.tmps.getD 45 undef = .int .i64 R := hI.val 1 45 (by decide) rfl (dp 1 (by decide))
      have V3 : a.tmps.getD 47 undef = .int .i64 S := hI.val 3 47 (by decide) rfl (dp 3 (by decide))
      have V4 : a.tmps.getD 48 undef = CV := hI.val 4 48 (by decide) rfl (dp 4 (by decide))
      obtain ⟨s8, V8, is8⟩ : ∃ s : SL, a.tmps.getD 52 undef = .slice s.a s.n s.c ∧ IsS w s zs := hI.val 8 52 (by decide) rfl (dp 8 (by decide))
      refine wpOp_call (f := 20) (args := #[.int .i64 R, .int .i64 S, CV, .slice s8.a s8.n s8.c]) ho e4 (by simp [execOp, e3, resolve, invoke, Deferred.ofValue, r20, ev, evf, evc, V1, V3, V4, V8]) ((k20 w s8 hw is8).mono ?_)
      rintro e W' ⟨L', Y', rfl, ha', hbw⟩
      refine ⟨_, rfl, ?_⟩
      rw [e2]
      exact go rfl (by decide) (by decide) (by decide) hbw ⟨L', Y', rfl, ha'⟩ (fun h h' => absurd h' (fun z0 => by have z1 := hcl.dep' o14 z0 11 (by decide); have z2 := hcl.dep' o11 z1 10 (by decide); have z3 := hcl.dep' o10 z2 9 (by decide); rw [hl] at z3; cases z3))
    · obtain ⟨o', e1, e2, e3, e4, e5⟩ := o10
      obtain rfl := Option.some.inj (ho.symm.trans e1)
      have dp := dep_of' e5 hdep
      obtain ⟨L9, Y9, V9, ad9⟩ : ∃ (L : SL) (Y : Nat → Nat → SL), a.tmps.getD 53 undef = .tuple #[.agg #[.int .i64 R', .int .i64 S', .slice L.a L.n L.c], .int .i64 E] ∧ AdAt w L Y m2 := hI.val 9 53 (by decide) rfl (dp 9 (by decide))
      refine wpOp_value (v := .tuple #[.agg #[.int .i64 R', .int .i64 S', .slice L9.a L9.n L9.c], .int .i64 E]) (w' := w) ho e4 (by simp [execOp, e3, ev, evc, V9]) (by rw [e2]; exact go rfl (by decide) (by decide) (by decide) (Below.refl _ _) ⟨L9, Y9, rfl, ad9⟩ (fun _ _ => .inl rfl))
    · obtain ⟨o', e1, e2, e3, e4, e5⟩ := o11
      obtain rfl := Option.some.inj (ho.symm.trans e1)
      have dp := dep_of' e5 hdep
      obtain ⟨L10, Y10, V10, ad10⟩ : ∃ (L : SL) (Y : Nat → Nat → SL), a.tmps.getD 43 undef = .tuple #[.agg #[.int .i64 R', .int .i64 S', .slice L.a L.n L.c], .int .i64 E] ∧ AdAt w L Y m2 := hI.val 10 43 (by decide) rfl (dp 10 (by decide))
      refine wpOp_value (v := .agg #[.int .i64 R', .int .i64 S', .slice L10.a L10.n L10.c]) (w' := w) ho e4 (by simp [execOp, e3, ev, evc, V10, run_ext0]) (by rw [e2]; exact go rfl (by decide) (by decide) (by decide) (Below.refl _ _) ⟨L10, Y10, rfl, ad10⟩ (fun _ _ => .inl rfl))
    · obtain ⟨o', e1, e2, e3, e4, e5⟩ := o12
      obtain rfl := Option.some.inj (ho.symm.trans e1)
      have dp := dep_of' e5 hdep
      obtain ⟨L10, Y10, V10, ad10⟩ : ∃ (L : SL) (Y : Nat → Nat → SL), a.tmps.getD 43 undef = .tuple #[.agg #[.int .i64 R', .int .i64 S', .slice L.a L.n L.c], .int .i64 E] ∧ AdAt w L Y m2 := hI.val 10 43 (by decide) rfl (dp 10 (by decide))
      refine wpOp_value (v := .int .i64 E) (w' := w) ho e4 (by simp [execOp, e3, ev, evc, V10, run_ext1]) (by rw [e2]; exact go rfl (by decide) (by decide) (by decide) (Below.refl _ _) rfl (fun _ _ => .inl rfl))
    · obtain ⟨o', e1, e2, e3, e4, e5⟩ := o13
      obtain rfl := Option.some.inj (ho.symm.trans e1)
      have dp := dep_of' e5 hdep
      have nst : l 14 = false := by
        cases e : l 14 with
        | false => rfl
        | true =>
          have := hcl.dep' o14 e 13 (by decide)
          rw [hl] at this
          cases this
      refine wpOp_value (v := .pointer (some ⟨w.heap.size, 0, none⟩)) (w' := w.alloc (.cells #[.int .i64 0, .int .i64 0, .slice none 0 0] 24)) ho e4 (by simp [execOp, e3, run_alloc24]) ?_
      rw [e2]
      have b1 := below_new (Below.refl w.heap.size w) (.cells #[.int .i64 0, .int .i64 0, .slice none 0 0] 24)
      refine hI.put hi rfl (Nat.lt_of_lt_of_le (by decide) hs) (inj 11 rfl) ⟨below_then hw b1, w.heap.size, fun _ => ⟨?_, hw.size, fun _ => Blk.new 24 w _, fun h => ?_⟩⟩ trivial (fun j u _ _ _ hf => rshF_below hf b1)
      · rw [get_put a 11 _ 11 (by rw [hI.size]; exact Nat.lt_of_lt_of_le (by decide) hs), if_pos rfl]
      · dsimp only at h
        rw [oth 14 (by decide), nst] at h
        cases h
    · obtain ⟨o', e1, e2, e3, e4, e5⟩ := o14
      obtain rfl := Option.some.inj (ho.symm.trans e1)
      have dp := dep_of' e5 hdep
      obtain ⟨L11, Y11, V11, ad11⟩ : ∃ (L : SL) (Y : Nat → Nat → SL), a.tmps.getD 54 undef = .agg #[.int .i64 R', .int .i64 S', .slice L.a L.n L.c] ∧ AdAt w L Y m2 := hI.val 11 54 (by decide) rfl (dp 11 (by decide))
      have la := dp 13 (by decide)
      obtain ⟨g1, g2, g3, g4⟩ := hG la
      have qz := g3 hl
      obtain ⟨w', hrn, q', on⟩ := run_store24 qz R' S' L11
      refine wpOp_skip (w' := w') ho e4 (by simp [execOp, e3, ev, g1, V11, hrn]) ?_
      rw [e2]
      refine hI.none_ rfl ⟨Only.below hw g2 hw.size on, G, fun h => ⟨g1, g2, fun h' => ?_, fun _ => ?_⟩⟩ (fun j u _ _ _ hf => rshF_other hf on qz)
      · simp at h'
      · exact ⟨L11, Y11, q', ad11.other24 on qz⟩
    · obtain ⟨o', e1, e2, e3, e4, e5⟩ := o15
      obtain rfl := Option.some.inj (ho.symm.trans e1)
      have dp := dep_of' e5 hdep
      have V12 : a.tmps.getD 55 undef = .int .i64 E := hI.val 12 55 (by decide) rfl (dp 12 (by decide))
      refine wpOp_value (v := .int .i64 E) (w' := w) ho e4 (by simp [execOp, e3, ev, evc, V12]) (by rw [e2]; exact go rfl (by decide) (by decide) (by decide) (Below.refl _ _) rfl (fun _ _ => .inl rfl))
  · intro l a w hall hI
    have all : ∀ j, j < 16 → l j = true := fun j hj => hall j (by rw [hsz]; exact hj)
    obtain ⟨hw, G, hG⟩ := hI.world
    obtain ⟨g1, g2, g3, g4⟩ := hG (all 13 (by decide))
    exact fin a w hI.size hI.defers hI.kept hw (fun i d hi hD => hI.val i d hi hD (all i hi)) ⟨G, g1, g2, g4 (all 14 (by decide))⟩


end Go.Proofs.Ytbmlafgolmmekaa
