/- Encode of any adapter, the program's and the document's. -/
import Derived.Test.YtbmlafgolmmekabRows
import Derived.Test.YtbmlafgolmmekabView
import Derived.Test.YtbmlafgolmmekabOwn
import Derived.Test.YtbmlafgolmmekabCfg
import Derived.Test.YtbmlafgolmmekabCfgs
import Derived.Test.YtbmlafgolmmekabCfgRef
import Derived.Test.YtbmlafgolmmekabHeld
import Derived.Test.YtbmlafgolmmekabReader
import Derived.Test.YtbmlafgolmmekabSls
import Derived.Test.YtbmlafgolmmekabSteps
import Derived.Test.YtbmlafgolmmekabInv
import Derived.Test.YtbmlafgolmmekabTyped
import Derived.Test.YtbmlafgolmmekabAds
import Derived.Test.YtbmlafgolmmekabRanges
import Derived.Test.YtbmlafgolmmekabTexts
import Derived.Test.YtbmlafgolmmekabSums
import Derived.Test.YtbmlafgolmmekabSeals
import Derived.Test.YtbmlafgolmmekabWts
import Derived.Test.YtbmlafgolmmekabCheck
import Derived.Test.YtbmlafgolmmekabPlan
import Derived.Test.YtbmlafgolmmekabFlat
import Derived.Test.YtbmlafgolmmekabRefCheck
import Derived.Test.YtbmlafgolmmekabPush
import Derived.Test.YtbmlafgolmmekabRegs
import Derived.WalkKit
import Derived.ProofKit
import Derived.OpenShut
import Derived.Below
import Derived.WalkLawsBesides
import Derived.Deep.QuietTactic
import Derived.BigQuiet
import Derived.Lib.QuietBelow
import Derived.Deep.RegionHeld3
import Derived.Orders
import Derived.ArgAppend
import Derived.Maps.AppendAt
namespace Go.Proofs.Ytbmlafgolmmekab
open Go.ChangeShapes Go.WideShapes Go.ChangeAt Go.RowKit
open Go.Sort hiding Below
set_option linter.unusedVariables false
set_option linter.unusedSimpArgs false

def hedD (i : Nat) : Option Nat := match i with | 0 => some 14 | 1 => some 15 | 2 => some 16 | 3 => some 17 | 4 => some 18 | 5 => some 19 | 6 => some 20 | 7 => some 21 | 8 => some 7 | _ => none
theorem hedD_inj : ∀ i, i < 9 → ∀ j, j < 9 → hedD i = hedD j → hedD i ≠ none → i = j := by decide
theorem hedD_lt : ∀ i, i < 9 → ∀ d, hedD i = some d → d < 22 := by
  intro i hi d h
  have : ∀ i, i < 9 → (hedD i).all (fun d => decide (d < 22)) = true := by decide
  have := this i hi
  rw [h] at this
  simpa using this
def hedF (ab : Nat) (R S : Int) (SR SS : ByteArray) (i : Nat) (q : Value) (w : World) : Prop := match i with
  | 0 => q = .pointer (some ⟨ab, 0, none⟩)
  | 1 => q = .int .i64 R
  | 2 => q = .string SR
  | 3 => q = .string ((⟨#[71, 82]⟩ : ByteArray) ++ SR)
  | 4 => q = .pointer (some ⟨ab, 1, none⟩)
  | 5 => q = .int .i64 S
  | 6 => q = .string SS
  | 7 => q = .string ((⟨#[71, 82]⟩ : ByteArray) ++ SR ++ SS)
  | 8 => q = .string ((⟨#[71, 82]⟩ : ByteArray) ++ SR ++ SS)
  | _ => True
theorem hedF_below {ab : Nat} {R S : Int} {SR SS : ByteArray} {i : Nat} {q : Value} {w w' : World} (h : hedF ab R S SR SS i q w) (hb : Below w.heap.size w w') : hedF ab R S SR SS i q w' := by
  unfold hedF at h ⊢
  split
  · exact h
  · exact h
  · exact h
  · exact h
  · exact h
  · exact h
  · exact h
  · exact h
  · exact h
  · trivial

set_option maxHeartbeats 4000000 in
theorem hed_region {id : Nat} {ops : Array Oper} {Q : Exit → Act → World → Prop} {a0 : Act} {w0 : World} (ab : Nat) (R S : Int) (SR SS : ByteArray) (hlow : lowB ops = true) (hsz : ops.size = 9)
    (o0 : OpIn ops 0 (some 14) (.fieldAddr 24 (.tmp 2) 0) none []) (o1 : OpIn ops 1 (some 15) (.load 3 (.tmp 14)) none [0]) (o2 : OpIn ops 2 (some 16) (.call { callee := .value (.func 18), args := #[.tmp 15], argTypes := #[3] }) none [1]) (o3 : OpIn ops 3 (some 17) (.binOp .add 9 (.const (.string ⟨#[71, 82]⟩)) (.tmp 16) 9) none [2]) (o4 : OpIn ops 4 (some 18) (.fieldAddr 24 (.tmp 2) 1) none []) (o5 : OpIn ops 5 (some 19) (.load 3 (.tmp 18)) none [4]) (o6 : OpIn ops 6 (some 20) (.call { callee := .value (.func 18), args := #[.tmp 19], argTypes := #[3] }) none [5]) (o7 : OpIn ops 7 (some 21) (.binOp .add 9 (.tmp 17) (.tmp 20) 9) none [3, 6]) (o8 : OpIn ops 8 (some 7) (.assign (.tmp 21)) none [7])
    (ha : a0.tmps.getD 2 undef = .pointer (some ⟨ab, 0, none⟩)) (hR : ∀ W, Below w0.heap.size w0 W → W.cell? ⟨ab, 0, none⟩ = some (.int .i64 R)) (hS : ∀ W, Below w0.heap.size w0 W → W.cell? ⟨ab, 1, none⟩ = some (.int .i64 S)) (zR : SR.size = 2) (zS : SS.size = 2)
    (kR : ∀ W, Calls Try.prog 18 #[.int .i64 R] W fun e W' => e = .returned (.string SR) ∧ Below W.heap.size W W') (kS : ∀ W, Calls Try.prog 18 #[.int .i64 S] W fun e W' => e = .returned (.string SS) ∧ Below W.heap.size W W')
    (hs : 22 ≤ a0.tmps.size)
    (fin : ∀ a w, a.tmps.size = a0.tmps.size → a.defers = a0.defers → (∀ s, (∀ i, i < 9 → hedD i ≠ some s) → a.tmps.getD s undef = a0.tmps.getD s undef) → Below w0.heap.size w0 w → (∀ i d, i < 9 → hedD i = some d → hedF ab R S SR SS i (a.tmps.getD d undef) w) → Q .normal a w) : (Code.region id ops true).wp Try.prog Q a0 w0 := by
  have r26 : ∀ args w, (callFunc 18 args).run Try.prog w = .ok (.enter 18 args) w := enters Try.func18 (by kernel_rfl) rfl
  refine wp_region_inv2 (by kernel_rfl) hlow (Inv 9 hedD a0 (fun _ _ w => Below w0.heap.size w0 w) (fun _ => hedF ab R S SR SS)) (Inv.start ⟨rfl, rfl, rfl, Nat.le_refl _, fun _ _ => rfl⟩) ?_ ?_
  · intro l i o a w ho hl hcl hdep hI
    have hi : i < 9 := by rw [← hsz]; exact (Array.getElem?_eq_some_iff.1 ho).1
    have ev : ∀ (s : Nat), a.eval (.tmp s) = a.tmps.getD s undef := fun _ => rfl
    have evf : ∀ f, a.eval (.func f) = .func (.func f) #[] #[] := fun _ => rfl
    have evc : ∀ c : Value, a.eval (.const c) = c := fun _ => rfl
    have inj : ∀ d, hedD i = some d → ∀ j d', j < 9 → hedD j = some d' → j ≠ i → d' ≠ d := fun d hd j d' hj hd' hne e => hne (hedD_inj j hj i hi (by rw [hd', hd, e]) (by rw [hd']; simp))
    have kp : ∀ s, (∀ i, i < 9 → hedD i ≠ some s) → a.tmps.getD s undef = a0.tmps.getD s undef := hI.kept
    have oth : ∀ j, j ≠ i → (l j || j == i) = l j := fun j hj => by rw [show (j == i) = false by simp [hj], Bool.or_false]
    have get : ∀ (d : Nat) (v : Value) (s : Nat), d < 22 → s ≠ d → (a.put (some d) v).tmps.getD s undef = a.tmps.getD s undef := fun d v s hd hs' => by
      rw [get_put a d v s (by rw [hI.size]; exact Nat.lt_of_lt_of_le hd hs), if_neg hs']
    have hw : Below w0.heap.size w0 w := hI.world
    have go : ∀ {d : Nat} {v : Value} {w' : World}, hedD i = some d → Below w.heap.size w w' → hedF ab R S SR SS i v w' → Inv 9 hedD a0 (fun _ _ w => Below w0.heap.size w0 w) (fun _ => hedF ab R S SR SS) (fun j => l j || j == i) (a.put (some d) v) w' := by
      intro d v w' hD hb hF
      exact hI.put hi hD (Nat.lt_of_lt_of_le (hedD_lt i hi d hD) hs) (inj d hD) (below_then hw hb) hF (fun j u _ _ _ hf => hedF_below hf hb)
    rcases (show i = 0 ∨ i = 1 ∨ i = 2 ∨ i = 3 ∨ i = 4 ∨ i = 5 ∨ i = 6 ∨ i = 7 ∨ i = 8 by omega) with rfl | rfl | rfl | rfl | rfl | rfl | rfl | rfl | rfl
    · obtain ⟨o', e1, e2, e3, e4, e5⟩ := o0
      obtain rfl := Option.some.inj (ho.symm.trans e1)
      have dp := dep_of' e5 hdep
      refine wpOp_value (v := .pointer (some ⟨ab, 0, none⟩)) (w' := w) ho e4 (by simp [execOp, e3, ev, evc, kp 2 (by decide), ha, run_ad0]) (by rw [e2]; exact go rfl (Below.refl _ _) rfl)
    · obtain ⟨o', e1, e2, e3, e4, e5⟩ := o1
      obtain rfl := Option.some.inj (ho.symm.trans e1)
      have dp := dep_of' e5 hdep
      have V0 : a.tmps.getD 14 undef = .pointer (some ⟨ab, 0, none⟩) := hI.val 0 14 (by decide) rfl (dp 0 (by decide))
      refine wpOp_value (v := .int .i64 R) (w' := w) ho e4 (by simp [execOp, e3, ev, evc, V0, run_load3 (hR w hw)]) (by rw [e2]; exact go rfl (Below.refl _ _) rfl)
    · obtain ⟨o', e1, e2, e3, e4, e5⟩ := o2
      obtain rfl := Option.some.inj (ho.symm.trans e1)
      have dp := dep_of' e5 hdep
      have V1 : a.tmps.getD 15 undef = .int .i64 R := hI.val 1 15 (by decide) rfl (dp 1 (by decide))
      refine wpOp_call (f := 18) (args := #[.int .i64 R]) ho e4 (by simp [execOp, e3, resolve, invoke, Deferred.ofValue, r26, ev, evf, evc, V1]) ((kR w).mono ?_)
      rintro e W' ⟨rfl, hbw⟩
      refine ⟨_, rfl, ?_⟩
      rw [e2]
      exact go rfl hbw rfl
    · obtain ⟨o', e1, e2, e3, e4, e5⟩ := o3
      obtain rfl := Option.some.inj (ho.symm.trans e1)
      have dp := dep_of' e5 hdep
      have V2 : a.tmps.getD 16 undef = .string SR := hI.val 2 16 (by decide) rfl (dp 2 (by decide))
      refine wpOp_value (v := .string ((⟨#[71, 82]⟩ : ByteArray) ++ SR)) (w' := w) ho e4 (by simp [execOp, e3, ev, evc, V2, run_cat (⟨#[71, 82]⟩ : ByteArray) SR (by have : (⟨#[71, 82]⟩ : ByteArray).size = 2 := rfl; omega), eqGuard]) (by rw [e2]; exact go rfl (Below.refl _ _) rfl)
    · obtain ⟨o', e1, e2, e3, e4, e5⟩ := o4
      obtain rfl := Option.some.inj (ho.symm.trans e1)
      have dp := dep_of' e5 hdep
      refine wpOp_value (v := .pointer (some ⟨ab, 1, none⟩)) (w' := w) ho e4 (by simp [execOp, e3, ev, evc, kp 2 (by decide), ha, run_ad1]) (by rw [e2]; exact go rfl (Below.refl _ _) rfl)
    · obtain ⟨o', e1, e2, e3, e4, e5⟩ := o5
      obtain rfl := Option.some.inj (ho.symm.trans e1)
      have dp := dep_of' e5 hdep
      have V4 : a.tmps.getD 18 undef = .pointer (some ⟨ab, 1, none⟩) := hI.val 4 18 (by decide) rfl (dp 4 (by decide))
      refine wpOp_value (v := .int .i64 S) (w' := w) ho e4 (by simp [execOp, e3, ev, evc, V4, run_load3 (hS w hw)]) (by rw [e2]; exact go rfl (Below.refl _ _) rfl)
    · obtain ⟨o', e1, e2, e3, e4, e5⟩ := o6
      obtain rfl := Option.some.inj (ho.symm.trans e1)
      have dp := dep_of' e5 hdep
      have V5 : a.tmps.getD 19 undef = .int .i64 S := hI.val 5 19 (by decide) rfl (dp 5 (by decide))
      refine wpOp_call (f := 18) (args := #[.int .i64 S]) ho e4 (by simp [execOp, e3, resolve, invoke, Deferred.ofValue, r26, ev, evf, evc, V5]) ((kS w).mono ?_)
      rintro e W' ⟨rfl, hbw⟩
      refine ⟨_, rfl, ?_⟩
      rw [e2]
      exact go rfl hbw rfl
    · obtain ⟨o', e1, e2, e3, e4, e5⟩ := o7
      obtain rfl := Option.some.inj (ho.symm.trans e1)
      have dp := dep_of' e5 hdep
      have V3 : a.tmps.getD 17 undef = .string ((⟨#[71, 82]⟩ : ByteArray) ++ SR) := hI.val 3 17 (by decide) rfl (dp 3 (by decide))
      have V6 : a.tmps.getD 20 undef = .string SS := hI.val 6 20 (by decide) rfl (dp 6 (by decide))
      refine wpOp_value (v := .string ((⟨#[71, 82]⟩ : ByteArray) ++ SR ++ SS)) (w' := w) ho e4 (by simp [execOp, e3, ev, evc, V3, V6, run_cat ((⟨#[71, 82]⟩ : ByteArray) ++ SR) SS (by have : (⟨#[71, 82]⟩ : ByteArray).size = 2 := rfl; rw [ByteArray.size_append]; omega), eqGuard]) (by rw [e2]; exact go rfl (Below.refl _ _) rfl)
    · obtain ⟨o', e1, e2, e3, e4, e5⟩ := o8
      obtain rfl := Option.some.inj (ho.symm.trans e1)
      have dp := dep_of' e5 hdep
      have V7 : a.tmps.getD 21 undef = .string ((⟨#[71, 82]⟩ : ByteArray) ++ SR ++ SS) := hI.val 7 21 (by decide) rfl (dp 7 (by decide))
      refine wpOp_value (v := .string ((⟨#[71, 82]⟩ : ByteArray) ++ SR ++ SS)) (w' := w) ho e4 (by simp [execOp, e3, ev, evc, V7]) (by rw [e2]; exact go rfl (Below.refl _ _) rfl)
  · intro l a w hall hI
    have all : ∀ j, j < 9 → l j = true := fun j hj => hall j (by rw [hsz]; exact hj)
    exact fin a w hI.size hI.defers hI.kept hI.world (fun i d hi hD => hI.val i d hi hD (all i hi))
theorem hedD_out : ∀ i, i < 9 → ∀ s, hedD i = some s → s ∈ [7, 14, 15, 16, 17, 18, 19, 20, 21] := by
  intro i hi s h
  have : ∀ i, i < 9 → (hedD i).all (fun d => decide (d ∈ [7, 14, 15, 16, 17, 18, 19, 20, 21])) = true := by decide
  have := this i hi
  rw [h] at this
  simpa using this


theorem encode_no (R S d h l v u x t n : Int) (La : Option Addr) (ml Lc : Nat) (w : World) (Z : Int) (hZ : (Z == 0) = false)
    (k12 : ∀ W, Below w.heap.size w W → Calls Try.prog 10 #[.agg #[.int .i64 R, .int .i64 S, .slice La ml Lc], .agg #[.int .i64 d, .int .i64 h, .int .i64 l, .int .i64 v, .int .i64 u, .int .i64 x, .int .i64 t, .int .i64 n]] W fun e w' => e = .returned (.int .i64 Z) ∧ Below W.heap.size W w') :
    Calls Try.prog 7 #[.agg #[.int .i64 R, .int .i64 S, .slice La ml Lc], .agg #[.int .i64 d, .int .i64 h, .int .i64 l, .int .i64 v, .int .i64 u, .int .i64 x, .int .i64 t, .int .i64 n]] w fun e w' => e = .returned (.tuple #[.string ⟨#[]⟩, .int .i64 Z]) ∧ Below w.heap.size w w' := by
  have hb := below_new (below_new (Below.refl w.heap.size w) (.cells #[.int .i64 R, .int .i64 S, .slice La ml Lc] 24)) (.cells #[.int .i64 d, .int .i64 h, .int .i64 l, .int .i64 v, .int .i64 u, .int .i64 x, .int .i64 t, .int .i64 n] 26)
  have qa : Blk 24 ((w.alloc (.cells #[.int .i64 R, .int .i64 S, .slice La ml Lc] 24)).alloc (.cells #[.int .i64 d, .int .i64 h, .int .i64 l, .int .i64 v, .int .i64 u, .int .i64 x, .int .i64 t, .int .i64 n] 26)) w.heap.size #[.int .i64 R, .int .i64 S, .slice La ml Lc] := (Blk.new 24 w _).kept (below_new (Below.refl _ _) _)
  have qc : Blk 26 ((w.alloc (.cells #[.int .i64 R, .int .i64 S, .slice La ml Lc] 24)).alloc (.cells #[.int .i64 d, .int .i64 h, .int .i64 l, .int .i64 v, .int .i64 u, .int .i64 x, .int .i64 t, .int .i64 n] 26)) (w.heap.size + 1) #[.int .i64 d, .int .i64 h, .int .i64 l, .int .i64 v, .int .i64 u, .int .i64 x, .int .i64 t, .int .i64 n] := Blk.new_at 26 (w.alloc _) _ _ (by simp)
  obtain ⟨a0, a1, a2⟩ := qa.c3
  obtain ⟨c0, c1, c2, c3, c4, c5, c6, c7⟩ := qc.cfg
  go_enter Try.func7, Try.ntmps7
  go_wp2_with (first | (go_at_call 10; refine (k12 _ hb).mono ?_; rintro e W1 ⟨rfl, h1⟩; replace qa := qa.kept h1; replace qc := qc.kept h1; replace hb := below_then hb h1; clear h1 a0 a1 a2 c0 c1 c2 c3 c4 c5 c6 c7; obtain ⟨a0, a1, a2⟩ := qa.c3; obtain ⟨c0, c1, c2, c3, c4, c5, c6, c7⟩ := qc.cfg))
  go_ret2
  exact ⟨rfl, hb⟩

set_option maxHeartbeats 4000000 in
set_option maxRecDepth 20000 in
theorem encode_yes (R S d h l v u x t n : Int) (La : Option Addr) (ml Lc : Nat) (w : World) (zs : List Int) (SR SS SW SE : ByteArray) (zR : SR.size = 2) (zS : SS.size = 2) (zW : SW.size ≤ 100000)
    (kR : ∀ W, Calls Try.prog 18 #[.int .i64 R] W fun e W' => e = .returned (.string SR) ∧ Below W.heap.size W W') (kS : ∀ W, Calls Try.prog 18 #[.int .i64 S] W fun e W' => e = .returned (.string SS) ∧ Below W.heap.size W W')
    (k12 : ∀ W, Below w.heap.size w W → Calls Try.prog 10 #[.agg #[.int .i64 R, .int .i64 S, .slice La ml Lc], .agg #[.int .i64 d, .int .i64 h, .int .i64 l, .int .i64 v, .int .i64 u, .int .i64 x, .int .i64 t, .int .i64 n]] W fun e w' => e = .returned (.int .i64 0) ∧ Below W.heap.size W w')
    (k15 : ∀ W, Below w.heap.size w W → Calls Try.prog 21 #[.agg #[.int .i64 R, .int .i64 S, .slice La ml Lc], .agg #[.int .i64 d, .int .i64 h, .int .i64 l, .int .i64 v, .int .i64 u, .int .i64 x, .int .i64 t, .int .i64 n]] W fun e W' => ∃ s : SL, e = .returned (.slice s.a s.n s.c) ∧ IsS W' s zs ∧ Below W.heap.size W W')
    (k28 : ∀ W (s : SL), IsS W s zs → Calls Try.prog 20 #[.slice s.a s.n s.c] W fun e W' => e = .returned (.string SW) ∧ Below W.heap.size W W')
    (k27 : ∀ W, Calls Try.prog 19 #[.string (((⟨#[71, 82]⟩ : ByteArray) ++ SR ++ SS) ++ SW)] W fun e W' => e = .returned (.string SE) ∧ Below W.heap.size W W') :
    Calls Try.prog 7 #[.agg #[.int .i64 R, .int .i64 S, .slice La ml Lc], .agg #[.int .i64 d, .int .i64 h, .int .i64 l, .int .i64 v, .int .i64 u, .int .i64 x, .int .i64 t, .int .i64 n]] w fun e w' => e = .returned (.tuple #[.string SE, .int .i64 0]) ∧ Below w.heap.size w w' := by
  have hb := below_new (below_new (Below.refl w.heap.size w) (.cells #[.int .i64 R, .int .i64 S, .slice La ml Lc] 24)) (.cells #[.int .i64 d, .int .i64 h, .int .i64 l, .int .i64 v, .int .i64 u, .int .i64 x, .int .i64 t, .int .i64 n] 26)
  have qa : Blk 24 ((w.alloc (.cells #[.int .i64 R, .int .i64 S, .slice La ml Lc] 24)).alloc (.cells #[.int .i64 d, .int .i64 h, .int .i64 l, .int .i64 v, .int .i64 u, .int .i64 x, .int .i64 t, .int .i64 n] 26)) w.heap.size #[.int .i64 R, .int .i64 S, .slice La ml Lc] := (Blk.new 24 w _).kept (below_new (Below.refl _ _) _)
  have qc : Blk 26 ((w.alloc (.cells #[.int .i64 R, .int .i64 S, .slice La ml Lc] 24)).alloc (.cells #[.int .i64 d, .int .i64 h, .int .i64 l, .int .i64 v, .int .i64 u, .int .i64 x, .int .i64 t, .int .i64 n] 26)) (w.heap.size + 1) #[.int .i64 d, .int .i64 h, .int .i64 l, .int .i64 v, .int .i64 u, .int .i64 x, .int .i64 t, .int .i64 n] := Blk.new_at 26 (w.alloc _) _ _ (by simp)
  obtain ⟨a0, a1, a2⟩ := qa.c3
  obtain ⟨c0, c1, c2, c3, c4, c5, c6, c7⟩ := qc.cfg
  go_enter Try.func7, Try.ntmps7
  go_wp2_with (first | (go_at_call 10; refine (k12 _ hb).mono ?_; rintro e W1 ⟨rfl, h1⟩; replace qa := qa.kept h1; replace qc := qc.kept h1; replace hb := below_then hb h1; clear h1 a0 a1 a2 c0 c1 c2 c3 c4 c5 c6 c7; obtain ⟨a0, a1, a2⟩ := qa.c3; obtain ⟨c0, c1, c2, c3, c4, c5, c6, c7⟩ := qc.cfg))
  refine hed_region w.heap.size R S SR SS (by kernel_rfl) rfl ⟨_, rfl, rfl, rfl, rfl, by kernel_rfl⟩ ⟨_, rfl, rfl, rfl, rfl, by kernel_rfl⟩ ⟨_, rfl, rfl, rfl, rfl, by kernel_rfl⟩ ⟨_, rfl, rfl, rfl, rfl, by kernel_rfl⟩ ⟨_, rfl, rfl, rfl, rfl, by kernel_rfl⟩ ⟨_, rfl, rfl, rfl, rfl, by kernel_rfl⟩ ⟨_, rfl, rfl, rfl, rfl, by kernel_rfl⟩ ⟨_, rfl, rfl, rfl, rfl, by kernel_rfl⟩ ⟨_, rfl, rfl, rfl, rfl, by kernel_rfl⟩ rfl (fun W hW => (qa.kept hW).cell 0 rfl) (fun W hW => (qa.kept hW).cell 1 rfl) zR zS kR kS (Nat.le_of_ble_eq_true rfl) ?_
  intro a W2 hs hd hkp hb1 hv
  have e7 : a.tmps.getD 7 undef = .string ((⟨#[71, 82]⟩ : ByteArray) ++ SR ++ SS) := hv 8 7 (by decide) rfl
  have ep := frame_puts [7, 14, 15, 16, 17, 18, 19, 20, 21] hs hd (fun s h => hkp s (by intro i hi e; exact h (hedD_out i hi s e)))
  simp only [List.foldl] at ep
  rw [e7] at ep
  clear hs hd hkp hv e7
  generalize a.tmps.getD 14 undef = g14 at ep
  generalize a.tmps.getD 15 undef = g15 at ep
  generalize a.tmps.getD 16 undef = g16 at ep
  generalize a.tmps.getD 17 undef = g17 at ep
  generalize a.tmps.getD 18 undef = g18 at ep
  generalize a.tmps.getD 19 undef = g19 at ep
  generalize a.tmps.getD 20 undef = g20 at ep
  generalize a.tmps.getD 21 undef = g21 at ep
  simp only [Act.put, List.setIfInBounds_toArray, List.set_cons_succ, List.set_cons_zero] at ep
  subst ep
  replace qa := qa.kept hb1
  replace qc := qc.kept hb1
  replace hb := below_then hb hb1
  clear hb1 a0 a1 a2 c0 c1 c2 c3 c4 c5 c6 c7
  obtain ⟨a0, a1, a2⟩ := qa.c3
  obtain ⟨c0, c1, c2, c3, c4, c5, c6, c7⟩ := qc.cfg
  have zH : ((⟨#[71, 82]⟩ : ByteArray) ++ SR ++ SS).size = 6 := by rw [ByteArray.size_append, ByteArray.size_append, zR, zS]; rfl
  obtain ⟨SH, eSH⟩ : ∃ SH, (⟨#[71, 82]⟩ : ByteArray) ++ SR ++ SS = SH := ⟨_, rfl⟩
  rw [eSH] at zH ⊢
  simp only [eSH] at k27
  clear eSH
  go_wp2_with (first
    | (go_at_call 21; refine (k15 _ hb).mono ?_; rintro e W3 ⟨s, rfl, hs, h1⟩; replace hb := below_then hb h1; clear h1)
    | (go_at_call 20; refine (k28 _ s hs).mono ?_; rintro e W4 ⟨rfl, h1⟩; replace hb := below_then hb h1; clear h1)
    | (go_at_call 19; refine (k27 _).mono ?_; rintro e W5 ⟨rfl, h1⟩; replace hb := below_then hb h1; clear h1))
  go_ret2
  exact ⟨rfl, hb⟩


/-- what stands ahead of the weights in an adapter's bytes, and the bytes -/
def headG (R S : Int) : ByteArray := (⟨#[71, 82]⟩ : ByteArray) ++ two R ++ two S
theorem headG_size (R S : Int) : (headG R S).size = 6 := by
  unfold headG
  rw [ByteArray.size_append, ByteArray.size_append, two_size, two_size]
  rfl
def encG (R S : Int) (zs : List Int) : ByteArray := sealS (headG R S ++ wtsS zs)
def encV (R S d h l v u x t n : Int) (m : AdV) : ByteArray := if checkA R S d h l v u x t n m = 0 then encG R S (flatA m) else ⟨#[]⟩
theorem wtsS_size (zs : List Int) : (wtsS zs).size = 2 + min zs.length 65535 := by
  unfold wtsS
  rw [ByteArray.size_append, two_size, wtsB_size]

theorem encode_call (R S d h l v u x t n : Int) (L : SL) (Y : Nat → Nat → SL) (m : AdV) (w : World) (hM : AdAt w L Y m) :
    Calls Try.prog 7 #[.agg #[.int .i64 R, .int .i64 S, .slice L.a L.n L.c], .agg #[.int .i64 d, .int .i64 h, .int .i64 l, .int .i64 v, .int .i64 u, .int .i64 x, .int .i64 t, .int .i64 n]] w fun e w' => e = .returned (.tuple #[.string (encV R S d h l v u x t n m), .int .i64 (checkA R S d h l v u x t n m)]) ∧ Below w.heap.size w w' := by
  have k12 := fun W hb => check_call R S d h l v u x t n L Y m W (hM.below (w' := W) hb)
  unfold encV
  by_cases hz : checkA R S d h l v u x t n m = 0
  · rw [if_pos hz, hz]
    simp only [hz] at k12
    obtain ⟨ok, _, _⟩ := checked hz
    have r := rightA_of ok
    have k15 := fun W hb => flat_call R S d h l v u x t n L Y m W (hM.below (w' := W) hb)
    simp only [hz, if_true] at k15
    have sw := wtsS_size (flatA m)
    have hh := headG_size R S
    exact encode_yes R S d h l v u x t n L.a L.n L.c w (flatA m) _ _ _ _ (two_size _) (two_size _) (by omega) (fun W => (two_call R W (wf_i64 (by have := r.r0; omega) (by have := r.r1; omega))).mono fun e w' ⟨he, hb⟩ => ⟨he, below_one hb⟩) (fun W => (two_call S W (wf_i64 (by have := r.s0; omega) (by have := r.s1; omega))).mono fun e w' ⟨he, hb⟩ => ⟨he, below_one hb⟩)
      k12 k15 (fun W s hs => weights_call s.a s.n s.c _ W hs.reads hs.cap) (fun W => (seal_call (headG R S ++ wtsS (flatA m)) W (by rw [ByteArray.size_append]; omega)).mono fun e w' ⟨he, hb⟩ => ⟨he, below_one hb⟩)
  · rw [if_neg hz]
    exact encode_no R S d h l v u x t n L.a L.n L.c w _ (by simp [hz]) k12

end Go.Proofs.Ytbmlafgolmmekab
