/- The region that shapes a list that is too short: whatever order it draws. -/
import Derived.Test.YtjbeloljbjfibaaRows
import Derived.Test.YtjbeloljbjfibaaLayer8
import Derived.Test.YtjbeloljbjfibaaConf
import Derived.Test.YtjbeloljbjfibaaBlank
import Derived.Test.YtjbeloljbjfibaaCfgRef
import Derived.Test.YtjbeloljbjfibaaSize
import Derived.Test.YtjbeloljbjfibaaSizes
import Derived.Test.YtjbeloljbjfibaaSteps
import Derived.Test.YtjbeloljbjfibaaClo54
import Derived.Test.YtjbeloljbjfibaaFill
import Derived.Test.YtjbeloljbjfibaaMods
import Derived.Test.YtjbeloljbjfibaaFills
import Derived.Test.YtjbeloljbjfibaaShape
import Derived.Test.YtjbeloljbjfibaaShapes
import Derived.Test.YtjbeloljbjfibaaCheck
import Derived.Test.YtjbeloljbjfibaaChecks
import Derived.Test.YtjbeloljbjfibaaDims
import Derived.Test.YtjbeloljbjfibaaFlat
import Derived.Test.YtjbeloljbjfibaaNumbers
import Derived.Test.YtjbeloljbjfibaaPrefix
import Derived.Test.YtjbeloljbjfibaaBody
import Derived.Test.YtjbeloljbjfibaaDecode
import Derived.WalkKit
import Derived.ProofKit
import Derived.OpenShut
import Derived.Below
import Derived.WalkLawsBesides
import Derived.Deep.QuietTactic
import Derived.BigQuiet
import Derived.Deep.RegionWith
import Derived.Deep.RegionHeld3
import Derived.Deep.OwnRows
import Derived.Deep.Slices
import Derived.Test.YtjbeloljbjfibaaTrips
import Derived.Test.YtjbeloljbjfibaaCuts
import Derived.Test.YtjbeloljbjfibaaSeeds
import Derived.Test.YtjbeloljbjfibaaInv
import Derived.Test.YtjbeloljbjfibaaMore
namespace Go.Proofs.Ytjbeloljbjfibaa
open Go.ChangeShapes Go.WideShapes Go.ChangeAt Go.RowKit
set_option linter.unusedVariables false

theorem run_tail {w : World} {xa : Addr} {n c : Nat} (h1 : 1 ≤ n) (h2 : n ≤ c) (h3 : c ≤ 9223372036854775807) : ∃ sa, (Instr.sliceAt 26 (.slice (some xa) n c) (some (.int .i64 1)) none none).run Try.prog w = .ok (.slice sa (n - 1) (c - 1)) w := by
  have h1' : (1 : Int) ≤ (n : Int) := by omega
  have h2' : (n : Int) ≤ (c : Int) := by omega
  refine ⟨if c = 1 then some xa else some (xa.add 1), ?_⟩
  go_simp
def lessD (i : Nat) : Option Nat := match i with | 0 => some 61 | 1 => some 62 | 2 => some 63 | 3 => some 64 | 4 => some 60 | 5 => some 65 | 6 => some 66 | 7 => some 12 | 8 => none | 9 => some 13 | _ => none
theorem lessD_inj : ∀ i, i < 10 → ∀ j, j < 10 → lessD i = lessD j → lessD i ≠ none → i = j := by decide

def lessF (C : Value) (B m : Nat) (r : SL) (code : Int) (i : Nat) (v : Value) (w : World) : Prop := match i with
  | 0 => v = C
  | 1 => v = r.v
  | 2 => ∃ sa c, v = .slice sa m c
  | 3 => v = .tuple #[zeroM, .int .i64 code]
  | 4 => v = .tuple #[zeroM, .int .i64 code]
  | 5 => v = zeroM
  | 6 => v = .int .i64 code
  | 7 => ∃ b, v = .pointer (some ⟨b, 0, none⟩) ∧ B ≤ b ∧ Blk 29 w b zeroC
  | 9 => v = .int .i64 code
  | _ => True

theorem lessF_below {C : Value} {B m : Nat} {r : SL} {code : Int} {i : Nat} {v : Value} {w w' : World} (h : lessF C B m r code i v w) (hb : Below w.heap.size w w') : lessF C B m r code i v w' := by
  unfold lessF at h ⊢
  split
  · exact h
  · exact h
  · exact h
  · exact h
  · exact h
  · exact h
  · exact h
  · obtain ⟨b, e1, e2, e3⟩ := h
    exact ⟨b, e1, e2, e3.kept hb⟩
  · exact h
  · trivial

set_option maxHeartbeats 2000000 in
theorem less_region {id : Nat} {ops : Array Oper} {Q : Exit → Act → World → Prop} {a0 : Act} {w0 : World} (CV : Value) (xa : Addr) (m c0 : Nat) (code : Int) (cb : Nat) (hB : lowB ops = true) (hsz : ops.size = 10)
    (o0 : OpAt ops 0 (some 61) (.load 23 (.tmp 2)) []) (o1 : OpAt ops 1 (some 62) (.move (.tmp 6)) []) (o2 : OpAt ops 2 (some 63) (.slice 26 (.tmp 62) (some (.const (.int .i64 1))) none none) [1])
    (o3 : OpAt ops 3 (some 64) (.call { callee := .value (.func 24), args := #[.tmp 61, .tmp 63], argTypes := #[23, 26] }) [0, 2]) (o4 : OpAt ops 4 (some 60) (.move (.tmp 64)) [3]) (o5 : OpAt ops 5 (some 65) (.extract (.tmp 60) 0) [4]) (o6 : OpAt ops 6 (some 66) (.extract (.tmp 60) 1) [4])
    (o7 : OpAt ops 7 (some 12) (.alloc 29) []) (o8 : OpAt ops 8 none (.store 29 (.tmp 12) (.tmp 65)) [5, 7]) (o9 : OpAt ops 9 (some 13) (.assign (.tmp 66)) [6])
    (k24 : ∀ W sa c, Calls Try.prog 24 #[CV, .slice sa m c] W fun e w' => e = .returned (.tuple #[zeroM, .int .i64 code]) ∧ Below W.heap.size W w')
    (ld : ∀ w, Below w0.heap.size w0 w → (Instr.loadAt 23 (.pointer (some ⟨cb, 0, none⟩))).run Try.prog w = .ok CV w) (h2 : a0.tmps.getD 2 undef = .pointer (some ⟨cb, 0, none⟩)) (h6 : a0.tmps.getD 6 undef = .slice (some xa) (m + 1) c0) (hc : m + 1 ≤ c0) (hc' : c0 ≤ 9223372036854775807) (hN : 67 ≤ a0.tmps.size)
    (fin : ∀ a w, a.tmps.size = a0.tmps.size → a.defers = a0.defers → (∀ s, (∀ i, i < 10 → lessD i ≠ some s) → a.tmps.getD s undef = a0.tmps.getD s undef) → a.tmps.getD 13 undef = .int .i64 code → Below w0.heap.size w0 w → Q .normal a w) : (Code.region id ops true).wp Try.prog Q a0 w0 := by
  have hrun : ∀ args w, (callFunc 24 args).run Try.prog w = .ok (.enter 24 args) w := enters Try.func24 (by kernel_rfl) rfl
  refine wp_region_inv (by kernel_rfl) hB (Inv 10 lessD a0 (fun _ _ w => Below w0.heap.size w0 w) (fun _ => lessF CV w0.heap.size m ⟨some xa, m + 1, c0⟩ code)) (Inv.start (below_drew (Below.refl _ _) ⟨1, rfl⟩)) ?_ ?_
  · intro l i o a w ho hl hdep hI
    have hi : i < 10 := by rw [← hsz]; exact (Array.getElem?_eq_some_iff.1 ho).1
    have hb := hI.world
    have hsB := hb.size
    have inj : ∀ d, lessD i = some d → ∀ j d', j < 10 → lessD j = some d' → j ≠ i → d' ≠ d := fun d hd j d' hj hd' hne e => hne (lessD_inj j hj i hi (by rw [hd, hd', e]) (by rw [hd']; simp))
    have ev : ∀ (s : Nat), a.eval (.tmp s) = a.tmps.getD s undef := fun _ => rfl
    have ke : ∀ s, (∀ i, i < 10 → lessD i ≠ some s) → a.eval (.tmp s) = a0.tmps.getD s undef := fun s hs => hI.kept s hs
    have newW : ∀ {d v w'}, lessD i = some d → d < 67 → Below w.heap.size w w' → lessF CV w0.heap.size m ⟨some xa, m + 1, c0⟩ code i v w' → Inv 10 lessD a0 (fun _ _ w => Below w0.heap.size w0 w) (fun _ => lessF CV w0.heap.size m ⟨some xa, m + 1, c0⟩ code) (fun j => l j || j == i) (a.put (some d) v) w' := fun hD hd hw hF => hI.put hi hD (by omega) (inj _ hD) (below_then hb hw) hF fun j u _ _ _ hf => lessF_below hf hw
    have pure_ : ∀ {d v}, lessD i = some d → d < 67 → lessF CV w0.heap.size m ⟨some xa, m + 1, c0⟩ code i v w → Inv 10 lessD a0 (fun _ _ w => Below w0.heap.size w0 w) (fun _ => lessF CV w0.heap.size m ⟨some xa, m + 1, c0⟩ code) (fun j => l j || j == i) (a.put (some d) v) w := fun hD hd hF => newW hD hd (Below.refl _ _) hF
    rcases (show i = 0 ∨ i = 1 ∨ i = 2 ∨ i = 3 ∨ i = 4 ∨ i = 5 ∨ i = 6 ∨ i = 7 ∨ i = 8 ∨ i = 9 by omega) with rfl | rfl | rfl | rfl | rfl | rfl | rfl | rfl | rfl | rfl
    · obtain ⟨o', e1, e2, e3, e4, e5⟩ := o0
      obtain rfl := Option.some.inj (ho.symm.trans e1)
      refine wpOp_value (v := CV) (w' := w) ho e4 ?_ (by rw [e2]; exact pure_ rfl (by decide) rfl)
      simp [execOp, e3, ke 2 (by decide), h2, ld w hb]
    · obtain ⟨o', e1, e2, e3, e4, e5⟩ := o1
      obtain rfl := Option.some.inj (ho.symm.trans e1)
      refine wpOp_value (v := .slice (some xa) (m + 1) c0) (w' := w) ho e4 ?_ (by rw [e2]; exact pure_ rfl (by decide) rfl)
      simp [execOp, e3, ke 6 (by decide), h6]
    · obtain ⟨o', e1, e2, e3, e4, e5⟩ := o2
      obtain rfl := Option.some.inj (ho.symm.trans e1)
      have dp := dep_of (ops := ops) e5 hdep
      have ev1 : a.tmps.getD 62 undef = .slice (some xa) (m + 1) c0 := hI.val 1 62 (by decide) rfl (dp 1 (by decide))
      obtain ⟨sa, hrn⟩ := run_tail (w := w) (xa := xa) (show 1 ≤ m + 1 by omega) hc hc'
      refine wpOp_value (v := .slice sa m (c0 - 1)) (w' := w) ho e4 ?_ (by rw [e2]; exact pure_ rfl (by decide) ⟨_, _, rfl⟩)
      simp only [Nat.add_sub_cancel] at hrn
      simp [execOp, e3, ev, ev1, show a.eval (.const (.int .i64 1)) = .int .i64 1 from rfl, hrn]
    · obtain ⟨o', e1, e2, e3, e4, e5⟩ := o3
      obtain rfl := Option.some.inj (ho.symm.trans e1)
      have dp := dep_of (ops := ops) e5 hdep
      have ev1 : a.tmps.getD 61 undef = CV := hI.val 0 61 (by decide) rfl (dp 0 (by decide))
      obtain ⟨sa, c, ev2⟩ := hI.val 2 63 (by decide) rfl (dp 2 (by decide))
      refine wpOp_call (f := 24) (args := #[CV, .slice sa m c]) ho e4 ?_ ((k24 w sa c).mono fun e w' hh => ⟨_, hh.1, by rw [e2]; exact newW rfl (by decide) hh.2 rfl⟩)
      simp [execOp, e3, resolve, invoke, ev, ev1, ev2, Deferred.ofValue, hrun, show a.eval (.func 24) = .func (.func 24) #[] #[] from rfl]
    · obtain ⟨o', e1, e2, e3, e4, e5⟩ := o4
      obtain rfl := Option.some.inj (ho.symm.trans e1)
      have dp := dep_of (ops := ops) e5 hdep
      have ev1 : a.tmps.getD 64 undef = .tuple #[zeroM, .int .i64 code] := hI.val 3 64 (by decide) rfl (dp 3 (by decide))
      refine wpOp_value (v := .tuple #[zeroM, .int .i64 code]) (w' := w) ho e4 ?_ (by rw [e2]; exact pure_ rfl (by decide) rfl)
      simp [execOp, e3, ev, ev1]
    · obtain ⟨o', e1, e2, e3, e4, e5⟩ := o5
      obtain rfl := Option.some.inj (ho.symm.trans e1)
      have dp := dep_of (ops := ops) e5 hdep
      have ev1 : a.tmps.getD 60 undef = .tuple #[zeroM, .int .i64 code] := hI.val 4 60 (by decide) rfl (dp 4 (by decide))
      refine wpOp_value (v := zeroM) (w' := w) ho e4 ?_ (by rw [e2]; exact pure_ rfl (by decide) rfl)
      simp [execOp, e3, ev, ev1, Instr.extract]
    · obtain ⟨o', e1, e2, e3, e4, e5⟩ := o6
      obtain rfl := Option.some.inj (ho.symm.trans e1)
      have dp := dep_of (ops := ops) e5 hdep
      have ev1 : a.tmps.getD 60 undef = .tuple #[zeroM, .int .i64 code] := hI.val 4 60 (by decide) rfl (dp 4 (by decide))
      refine wpOp_value (v := .int .i64 code) (w' := w) ho e4 ?_ (by rw [e2]; exact pure_ rfl (by decide) rfl)
      simp [execOp, e3, ev, ev1, Instr.extract]
    · obtain ⟨o', e1, e2, e3, e4, e5⟩ := o7
      obtain rfl := Option.some.inj (ho.symm.trans e1)
      refine wpOp_value (v := .pointer (some ⟨w.heap.size, 0, none⟩)) (w' := w.alloc (.cells zeroC 29)) ho e4 ?_ (by rw [e2]; exact newW rfl (by decide) (below_new (Below.refl _ _) _) ⟨_, rfl, hsB, Blk.new 29 w zeroC⟩)
      simp [execOp, e3, run_alloc29]
    · obtain ⟨o', e1, e2, e3, e4, e5⟩ := o8
      obtain rfl := Option.some.inj (ho.symm.trans e1)
      have dp := dep_of (ops := ops) e5 hdep
      obtain ⟨b, ev1, hbB, hq⟩ := hI.val 7 12 (by decide) rfl (dp 7 (by decide))
      have ev2 : a.tmps.getD 65 undef = zeroM := hI.val 5 65 (by decide) rfl (dp 5 (by decide))
      obtain ⟨w', hrn, hq', honly⟩ := run_store29 hq
      refine wpOp_skip (w' := w') ho e4 ?_ ?_
      · simp [execOp, e3, ev, ev1, ev2, hrn]
      · rw [e2]
        refine hI.none_ rfl (Only.below hb hbB hsB honly) fun j u hj hlj hne hf => ?_
        rcases (show j = 0 ∨ j = 1 ∨ j = 2 ∨ j = 3 ∨ j = 4 ∨ j = 5 ∨ j = 6 ∨ j = 7 ∨ j = 9 by omega) with rfl | rfl | rfl | rfl | rfl | rfl | rfl | rfl | rfl
        · exact hf
        · exact hf
        · exact hf
        · exact hf
        · exact hf
        · exact hf
        · exact hf
        · obtain ⟨b', f1, f2, f3⟩ := hf
          refine ⟨b', f1, f2, ?_⟩
          by_cases eb : b' = b
          · rw [eb]; exact hq'
          · exact (honly.block b' f3.lt (fun e => eb (by simpa using e))).trans f3
        · exact hf
    · obtain ⟨o', e1, e2, e3, e4, e5⟩ := o9
      obtain rfl := Option.some.inj (ho.symm.trans e1)
      have dp := dep_of (ops := ops) e5 hdep
      have ev1 : a.tmps.getD 66 undef = .int .i64 code := hI.val 6 66 (by decide) rfl (dp 6 (by decide))
      refine wpOp_value (v := .int .i64 code) (w' := w) ho e4 ?_ (by rw [e2]; exact pure_ rfl (by decide) rfl)
      simp [execOp, e3, ev, ev1]
  · intro l a w hall hI
    exact fin a w hI.size hI.defers hI.kept (hI.val 9 13 (by decide) rfl (hall 9 (by omega))) hI.world

end Go.Proofs.Ytjbeloljbjfibaa
