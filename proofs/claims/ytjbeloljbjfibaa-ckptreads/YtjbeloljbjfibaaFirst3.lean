import Derived.Test.YtjbeloljbjfibaaRows
import Derived.Test.YtjbeloljbjfibaaLayer8
import Derived.Test.YtjbeloljbjfibaaConf
import Derived.Test.YtjbeloljbjfibaaBlank
import Derived.Test.YtjbeloljbjfibaaCfgRef
import Derived.Test.YtjbeloljbjfibaaSize
import Derived.Test.YtjbeloljbjfibaaSizes
import Derived.Test.YtjbeloljbjfibaaSteps
import Derived.Test.YtjbeloljbjfibaaClo54
import Derived.Test.YtjbeloljbjfibaaFill
import Derived.Test.YtjbeloljbjfibaaMods
import Derived.Test.YtjbeloljbjfibaaFills
import Derived.Test.YtjbeloljbjfibaaShape
import Derived.Test.YtjbeloljbjfibaaShapes
import Derived.Test.YtjbeloljbjfibaaCheck
import Derived.Test.YtjbeloljbjfibaaChecks
import Derived.Test.YtjbeloljbjfibaaDims
import Derived.Test.YtjbeloljbjfibaaFlat
import Derived.Test.YtjbeloljbjfibaaNumbers
import Derived.Test.YtjbeloljbjfibaaPrefix
import Derived.Test.YtjbeloljbjfibaaBody
import Derived.Test.YtjbeloljbjfibaaDecode
import Derived.WalkKit
import Derived.ProofKit
import Derived.OpenShut
import Derived.Below
import Derived.WalkLawsBesides
import Derived.Deep.QuietTactic
import Derived.BigQuiet
import Derived.Deep.RegionWith
import Derived.Deep.RegionHeld3
import Derived.Deep.OwnRows
import Derived.Deep.Slices
import Derived.Test.YtjbeloljbjfibaaTrips
import Derived.Test.YtjbeloljbjfibaaCuts
import Derived.Test.YtjbeloljbjfibaaSeeds
import Derived.Test.YtjbeloljbjfibaaInv
import Derived.Test.YtjbeloljbjfibaaMore
import Derived.Test.YtjbeloljbjfibaaTypedC
import Derived.Test.YtjbeloljbjfibaaNexts
import Derived.Test.YtjbeloljbjfibaaFirst
namespace Go.Proofs.Ytjbeloljbjfibaa
open Go.ChangeShapes Go.WideShapes Go.ChangeAt Go.RowKit
set_option linter.unusedVariables false

/-- a store into a block that is new -/
theorem Only.new {xb b : Nat} {w0 w w' : World} (h : Only xb w0 w) (hb : w0.heap.size ≤ b) (k : Only b w w') : Only xb w0 w' :=
  ⟨k.os.trans h.os, k.tape.trans h.tape, k.output.trans h.output, Nat.le_trans h.size k.size, fun i hi hn => (k.block i (Nat.lt_of_lt_of_le hi h.size) (fun e => by have := Option.some.inj e; omega)).trans (h.block i hi hn)⟩
theorem Only.drew_ {xb : Nat} {w0 w : World} (h : Only xb w0 w) : Only xb w0 { w with drawn := w.drawn + 1 } := ⟨h.os, h.tape, h.output, h.size, h.block⟩
theorem Blk.only {t : TypeId} {w w' : World} {b g : Nat} {cs : Array Value} (q : Blk t w b cs) (o : Only g w w') (h : b ≠ g) : Blk t w' b cs := (o.block b q.lt (fun k => h (by simpa using k))).trans q
theorem CutAt.lt {w : World} {xb sb N T : Nat} {ws : List Int} (h : CutAt w xb sb N ws T) : xb < w.heap.size := by obtain ⟨y, c, q, _⟩ := h; exact q.lt
theorem CutAt.keeps {w w' : World} {xb sb N T : Nat} {ws : List Int} (h : CutAt w xb sb N ws T) (o : Only xb w w') {t : TypeId} (ht : t ≠ 81) : Keeps t w w' := by obtain ⟨y, c, q, _⟩ := h; exact Keeps.of_only o q ht

def firR (xb sb N : Nat) (ws : List Int) (cnt : Nat → Nat) (w0 : World) (l : Nat → Bool) (a : Act) (w : World) : Prop := Only xb w0 w ∧ CutAt w xb sb N ws (offs cnt (if l 6 = true then 1 else 0)) ∧ (l 9 = true → l 8 = true)

theorem Inv.none_' {N : Nat} {D : Nat → Option Nat} {a0 : Act} {R : (Nat → Bool) → Act → World → Prop} {F : (Nat → Bool) → Nat → Value → World → Prop} {l : Nat → Bool} {a : Act} {w : World} (h : Inv N D a0 R F l a w) {i : Nat} {w' : World} (hD : D i = none) (hR : R (fun j => l j || j == i) a w') (mono : ∀ j d, j < N → D j = some d → l j = true → j ≠ i → F l j (a.tmps.getD d undef) w → F (fun j => l j || j == i) j (a.tmps.getD d undef) w') :
    Inv N D a0 R F (fun j => l j || j == i) a w' := by
  refine ⟨h.size, h.defers, h.kept, hR, fun j d' hj hDj hl => ?_⟩
  have e : j ≠ i := fun e => by rw [e, hD] at hDj; cases hDj
  have hl' : l j = true := by simpa [e] using hl
  exact mono j d' hj hDj hl' e (h.val j d' hj hDj hl')

set_option maxHeartbeats 2000000 in
theorem first_region {id : Nat} {ops : Array Oper} {Q : Exit → Act → World → Prop} {a0 : Act} {w0 : World} (d h l v u x t n : Int) (xb cb sb N : Nat) (ws : List Int) (cnt : Nat → Nat) (hB : lowB ops = true) (hsz : ops.size = 10)
    (o0 : OpAt ops 0 (some 27) (.load 23 (.tmp 2)) []) (o1 : OpAt ops 1 (some 28) (.move (.tmp 7)) []) (o2 : OpAt ops 2 (some 29) (.fieldAddr 23 (.tmp 2) 3) []) (o3 : OpAt ops 3 (some 30) (.load 3 (.tmp 29)) [2]) (o4 : OpAt ops 4 (some 31) (.move (.tmp 6)) []) (o5 : OpAt ops 5 (some 32) (.binOp .mul 3 (.tmp 30) (.tmp 31) 3) [3, 4])
    (o6 : OpAt ops 6 (some 33) (.call { callee := .value (.func 55), args := #[.tmp 28, .tmp 32], argTypes := #[79, 3] }) [1, 5]) (o7 : OpAt ops 7 (some 34) (.build 29 #[(0, .tmp 27), (1, .tmp 33)]) [0, 6]) (o8 : OpAt ops 8 (some 8) (.alloc 29) []) (o9 : OpAt ops 9 none (.store 29 (.tmp 8) (.tmp 34)) [7, 8])
    (hmul : ∀ w, (binOp .mul 3 (.int .i64 v) (.int .i64 d)).run Try.prog w = .ok (.int .i64 (cnt 0 : Int)) w) (q : Blk 23 w0 cb #[.int .i64 d, .int .i64 h, .int .i64 l, .int .i64 v, .int .i64 u, .int .i64 x, .int .i64 t, .int .i64 n]) (h2 : a0.tmps.getD 2 undef = .pointer (some ⟨cb, 0, none⟩)) (h7 : a0.tmps.getD 7 undef = .pointer (some ⟨xb, 0, none⟩)) (h6 : a0.tmps.getD 6 undef = .int .i64 d)
    (hc : CutAt w0 xb sb N ws 0) (hfit : cnt 0 ≤ N) (hN : N ≤ 100000) (hsb : sb ≠ xb) (hcx : cb ≠ xb) (hsl : sb < w0.heap.size) (hs : 35 ≤ a0.tmps.size)
    (fin : ∀ a w b (s : SL), a.tmps.size = a0.tmps.size → a.defers = a0.defers → (∀ k, (∀ i, i < 10 → firD i ≠ some k) → a.tmps.getD k undef = a0.tmps.getD k undef) → a.tmps.getD 8 undef = .pointer (some ⟨b, 0, none⟩) → w0.heap.size ≤ b → Blk 29 w b (firM d h l v u x t n s) → TS w0.heap.size w s (seg cnt ws 0) → CutAt w xb sb N ws (offs cnt 1) → Only xb w0 w → Q .normal a w) : (Code.region id ops true).wp Try.prog Q a0 w0 := by
  have hrun : ∀ args w, (callFunc 55 args).run Try.prog w = .ok (.enter 55 args) w := enters Try.func55 (by kernel_rfl) rfl
  have hxl := hc.lt
  refine wp_region_inv (by kernel_rfl) hB (Inv 10 firD a0 (firR xb sb N ws cnt w0) (firF d h l v u x t n (cnt 0 : Int) xb cb w0.heap.size (seg cnt ws 0))) (Inv.start ⟨(Only.refl xb w0).drew_, by obtain ⟨y, c, q1, q2, q3, q4⟩ := hc; exact ⟨y, c, q1, q2, ⟨q3.len, q3.max, q3.wf, q3.some_, q3.cell⟩, q4⟩, fun h => by cases h⟩) ?_ ?_
  · intro l' i o a w ho hl hdep hI
    have hi : i < 10 := by rw [← hsz]; exact (Array.getElem?_eq_some_iff.1 ho).1
    obtain ⟨honly, hcut, d9⟩ := hI.world
    have hsB := honly.size
    have inj : ∀ d, firD i = some d → ∀ j d', j < 10 → firD j = some d' → j ≠ i → d' ≠ d := fun d hd j d' hj hd' hne e => hne (firD_inj j hj i hi (by rw [hd, hd', e]) (by rw [hd']; simp))
    have ev : ∀ (s : Nat), a.eval (.tmp s) = a.tmps.getD s undef := fun _ => rfl
    have ke : ∀ s, (∀ i, i < 10 → firD i ≠ some s) → a.eval (.tmp s) = a0.tmps.getD s undef := fun s hs => hI.kept s hs
    have qc : Blk 23 w cb #[.int .i64 d, .int .i64 h, .int .i64 l, .int .i64 v, .int .i64 u, .int .i64 x, .int .i64 t, .int .i64 n] := q.only honly hcx
    have l6 : i ≠ 6 → (l' 6 || 6 == i) = l' 6 := fun h => by rw [show (6 == i) = false by simp; omega, Bool.or_false]
    have l9 : i ≠ 9 → (l' 9 || 9 == i) = l' 9 := fun h => by rw [show (9 == i) = false by simp; omega, Bool.or_false]
    have newW : ∀ {d' v' w'}, firD i = some d' → d' < 35 → i ≠ 6 → i ≠ 9 → Below w.heap.size w w' → (firF d h l v u x t n (cnt 0 : Int) xb cb w0.heap.size (seg cnt ws 0)) (fun j => l' j || j == i) i v' w' → Inv 10 firD a0 (firR xb sb N ws cnt w0) (firF d h l v u x t n (cnt 0 : Int) xb cb w0.heap.size (seg cnt ws 0)) (fun j => l' j || j == i) (a.put (some d') v') w' := fun hD hd n6 n9 hw hF => hI.put hi hD (by omega) (inj _ hD) ⟨honly.trans (Only.of_below hw), by simp only [l6 n6]; exact hcut.below hw, fun h => by have h' : l' 9 = true := (by simpa only [l9 n9] using h); simp [d9 h']⟩ hF fun j u _ _ _ hf => firF_step hf (l9 n9) (Keeps.of_below hw) (Keeps.of_below hw)
    have pure_ : ∀ {d' v'}, firD i = some d' → d' < 35 → i ≠ 6 → i ≠ 9 → (firF d h l v u x t n (cnt 0 : Int) xb cb w0.heap.size (seg cnt ws 0)) (fun j => l' j || j == i) i v' w → Inv 10 firD a0 (firR xb sb N ws cnt w0) (firF d h l v u x t n (cnt 0 : Int) xb cb w0.heap.size (seg cnt ws 0)) (fun j => l' j || j == i) (a.put (some d') v') w := fun hD hd n6 n9 hF => newW hD hd n6 n9 (Below.refl _ _) hF
    rcases (show i = 0 ∨ i = 1 ∨ i = 2 ∨ i = 3 ∨ i = 4 ∨ i = 5 ∨ i = 6 ∨ i = 7 ∨ i = 8 ∨ i = 9 by omega) with rfl | rfl | rfl | rfl | rfl | rfl | rfl | rfl | rfl | rfl
    · obtain ⟨o', e1, e2, e3, e4, e5⟩ := o0
      obtain rfl := Option.some.inj (ho.symm.trans e1)
      have dp := dep_of (ops := ops) e5 hdep
      refine wpOp_value (v := .agg #[.int .i64 d, .int .i64 h, .int .i64 l, .int .i64 v, .int .i64 u, .int .i64 x, .int .i64 t, .int .i64 n]) (w' := w) ho e4 ?_ (by rw [e2]; exact pure_ rfl (by decide) (by decide) (by decide) rfl)
      simp [execOp, e3, ke 2 (by decide), h2, run_load23 qc]
    · obtain ⟨o', e1, e2, e3, e4, e5⟩ := o1
      obtain rfl := Option.some.inj (ho.symm.trans e1)
      have dp := dep_of (ops := ops) e5 hdep
      refine wpOp_value (v := .pointer (some ⟨xb, 0, none⟩)) (w' := w) ho e4 ?_ (by rw [e2]; exact pure_ rfl (by decide) (by decide) (by decide) rfl)
      simp [execOp, e3, ke 7 (by decide), h7]
    · obtain ⟨o', e1, e2, e3, e4, e5⟩ := o2
      obtain rfl := Option.some.inj (ho.symm.trans e1)
      have dp := dep_of (ops := ops) e5 hdep
      refine wpOp_value (v := .pointer (some ⟨cb, 3, none⟩)) (w' := w) ho e4 ?_ (by rw [e2]; exact pure_ rfl (by decide) (by decide) (by decide) rfl)
      simp [execOp, e3, ke 2 (by decide), h2, (run_cfg3 qc).1]
    · obtain ⟨o', e1, e2, e3, e4, e5⟩ := o3
      obtain rfl := Option.some.inj (ho.symm.trans e1)
      have dp := dep_of (ops := ops) e5 hdep
      have ev1 : a.tmps.getD 29 undef = .pointer (some ⟨cb, 3, none⟩) := hI.val 2 29 (by decide) rfl (dp 2 (by decide))
      refine wpOp_value (v := .int .i64 v) (w' := w) ho e4 ?_ (by rw [e2]; exact pure_ rfl (by decide) (by decide) (by decide) rfl)
      simp [execOp, e3, ev, ev1, (run_cfg3 qc).2]
    · obtain ⟨o', e1, e2, e3, e4, e5⟩ := o4
      obtain rfl := Option.some.inj (ho.symm.trans e1)
      have dp := dep_of (ops := ops) e5 hdep
      refine wpOp_value (v := .int .i64 d) (w' := w) ho e4 ?_ (by rw [e2]; exact pure_ rfl (by decide) (by decide) (by decide) rfl)
      simp [execOp, e3, ke 6 (by decide), h6]
    · obtain ⟨o', e1, e2, e3, e4, e5⟩ := o5
      obtain rfl := Option.some.inj (ho.symm.trans e1)
      have dp := dep_of (ops := ops) e5 hdep
      have ev1 : a.tmps.getD 30 undef = .int .i64 v := hI.val 3 30 (by decide) rfl (dp 3 (by decide))
      have ev2 : a.tmps.getD 31 undef = .int .i64 d := hI.val 4 31 (by decide) rfl (dp 4 (by decide))
      refine wpOp_value (v := .int .i64 (cnt 0 : Int)) (w' := w) ho e4 ?_ (by rw [e2]; exact pure_ rfl (by decide) (by decide) (by decide) rfl)
      simp [execOp, e3, ev, ev1, ev2, hmul, eqGuard]
    · obtain ⟨o', e1, e2, e3, e4, e5⟩ := o6
      obtain rfl := Option.some.inj (ho.symm.trans e1)
      have dp := dep_of (ops := ops) e5 hdep
      have ev1 : a.tmps.getD 28 undef = .pointer (some ⟨xb, 0, none⟩) := hI.val 1 28 (by decide) rfl (dp 1 (by decide))
      have ev2 : a.tmps.getD 32 undef = .int .i64 (cnt 0 : Int) := hI.val 5 32 (by decide) rfl (dp 5 (by decide))
      have hcut' : CutAt w xb sb N ws (offs cnt 0) := by rw [hl] at hcut; exact hcut
      refine wpOp_call (f := 55) (args := #[.pointer (some ⟨xb, 0, none⟩), .int .i64 (cnt 0 : Int)]) ho e4 ?_ ((next_seg (k := 0) hcut' (by show offs cnt 0 + cnt 0 ≤ N; show 0 + cnt 0 ≤ N; omega) hN hsb).mono fun e w' hh => ?_)
      · simp [execOp, e3, resolve, invoke, ev, ev1, ev2, Deferred.ofValue, hrun, show a.eval (.func 55) = .func (.func 55) #[] #[] from rfl]
      · obtain ⟨s, g1, g2, g3, g4⟩ := hh
        refine ⟨_, g1, ?_⟩
        rw [e2]
        exact hI.put hi rfl (by omega) (inj _ rfl) ⟨honly.trans g4, by simpa using g3, fun h => by have h' : l' 9 = true := (by simpa using h); simp [d9 h']⟩ ⟨s, rfl, g2.le hsB⟩ fun j u' _ _ _ hf => firF_step hf (l9 (by decide)) (hcut'.keeps g4 (by decide)) (hcut'.keeps g4 (by decide))
    · obtain ⟨o', e1, e2, e3, e4, e5⟩ := o7
      obtain rfl := Option.some.inj (ho.symm.trans e1)
      have dp := dep_of (ops := ops) e5 hdep
      have ev1 : a.tmps.getD 27 undef = .agg #[.int .i64 d, .int .i64 h, .int .i64 l, .int .i64 v, .int .i64 u, .int .i64 x, .int .i64 t, .int .i64 n] := hI.val 0 27 (by decide) rfl (dp 0 (by decide))
      obtain ⟨s, ev2, ts⟩ := hI.val 6 33 (by decide) rfl (dp 6 (by decide))
      refine wpOp_value (v := .agg (firM d h l v u x t n s)) (w' := w) ho e4 ?_ (by rw [e2]; exact pure_ rfl (by decide) (by decide) (by decide) ⟨s, rfl, ts⟩)
      simp [execOp, e3, ev, ev1, ev2, run_build29, firM]
    · obtain ⟨o', e1, e2, e3, e4, e5⟩ := o8
      obtain rfl := Option.some.inj (ho.symm.trans e1)
      have dp := dep_of (ops := ops) e5 hdep
      have nd9 : l' 9 = false := by
        cases h9 : l' 9 with
        | false => rfl
        | true => exact absurd (d9 h9) (by rw [hl]; simp)
      refine wpOp_value (v := .pointer (some ⟨w.heap.size, 0, none⟩)) (w' := w.alloc (.cells zeroC 29)) ho e4 ?_ (by rw [e2]; exact newW rfl (by decide) (by decide) (by decide) (below_new (Below.refl _ _) _) ⟨_, rfl, hsB, fun _ => Blk.new 29 w zeroC, fun h => by simp [nd9] at h⟩)
      simp [execOp, e3, run_alloc29]
    · obtain ⟨o', e1, e2, e3, e4, e5⟩ := o9
      obtain rfl := Option.some.inj (ho.symm.trans e1)
      have dp := dep_of (ops := ops) e5 hdep
      obtain ⟨b, ev1, hbB, hq, -⟩ := hI.val 8 8 (by decide) rfl (dp 8 (by decide))
      obtain ⟨s, ev2, ts⟩ := hI.val 7 34 (by decide) rfl (dp 7 (by decide))
      have hq' := hq hl
      obtain ⟨w', hrn, hq2, honly'⟩ := run_store29m hq' d h l v u x t n s
      have k46 : Keeps 46 w w' := Keeps.of_only honly' hq' (by decide)
      refine wpOp_skip (w' := w') ho e4 ?_ ?_
      · simp [execOp, e3, ev, ev1, ev2, hrn, firM]
      · rw [e2]
        refine hI.none_' rfl ⟨honly.new hbB honly', by simp only [l6 (show (9 : Nat) ≠ 6 by decide)]; exact hcut.only honly' (by omega) (by omega), fun _ => by simp [dp 8 (by decide)]⟩ fun j d' hj hDj hlj hne hf => ?_
        rcases (show j = 0 ∨ j = 1 ∨ j = 2 ∨ j = 3 ∨ j = 4 ∨ j = 5 ∨ j = 6 ∨ j = 7 ∨ j = 8 by omega) with rfl | rfl | rfl | rfl | rfl | rfl | rfl | rfl | rfl
        · exact hf
        · exact hf
        · exact hf
        · exact hf
        · exact hf
        · exact hf
        · obtain ⟨s', f1, f2⟩ := hf
          exact ⟨s', f1, f2.step k46⟩
        · obtain ⟨s', f1, f2⟩ := hf
          exact ⟨s', f1, f2.step k46⟩
        · obtain rfl := Option.some.inj hDj
          exact ⟨b, ev1, hbB, (fun h => by simp at h), fun _ => ⟨s, hq2, ts.step k46⟩⟩
  · intro l' a w hall hI
    obtain ⟨b, e1, e2, _, e4⟩ := hI.val 8 8 (by decide) rfl (hall 8 (by omega))
    obtain ⟨s, e5, e6⟩ := e4 (hall 9 (by omega))
    obtain ⟨g1, g2, _⟩ := hI.world
    rw [if_pos (hall 6 (by omega))] at g2
    exact fin a w b s hI.size hI.defers hI.kept e1 e2 e5 e6 g2 g1

end Go.Proofs.Ytjbeloljbjfibaa
