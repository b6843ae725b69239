/- Regions in which a beam is copied and appended, whatever the order. -/
import Derived.Test.YteeljnibglnflaaRows
import Derived.Test.YteeljnibglnflaaView
import Derived.Test.YteeljnibglnflaaGInvIn
import Derived.WalkKit
import Derived.ProofKit
import Derived.OpenShut
import Derived.WalkLawsBesides
import Derived.Below
import Derived.Deep.QuietTactic
import Derived.BigQuiet
import Derived.Laws.AppendOwnNone
import Derived.Orders
namespace Go.Proofs.Yteeljnibglnflaa
set_option maxRecDepth 20000
open Go.ChangeShapes Go.WideShapes Go.ChangeAt Go.RowKit
set_option linter.unusedVariables false
set_option linter.unusedSimpArgs false

def Kept2 (N : Nat) (D : Nat → Option Nat) (a0 : Act) (l : Nat → Bool) (a : Act) : Prop := ∀ s, (∀ i, i < N → l i = true → D i ≠ some s) → a.tmps.getD s undef = a0.tmps.getD s undef
theorem kept2_start (N : Nat) (D : Nat → Option Nat) (a0 : Act) : Kept2 N D a0 (fun _ => false) a0 := fun _ _ => rfl
theorem Kept2.put {N : Nat} {D : Nat → Option Nat} {a0 : Act} {l : Nat → Bool} {a : Act} (h : Kept2 N D a0 l a) {i d : Nat} {v : Value} (hD : D i = some d) (hd : d < a.tmps.size) (hi : i < N := by decide) : Kept2 N D a0 (fun j => l j || j == i) (a.put (some d) v) := fun s hs => by
  rw [get_put a d v s hd, if_neg (fun e => hs i hi (by simp) (by rw [e]; exact hD))]
  exact h s (fun j hj hl => hs j hj (by simp [hl]))
theorem Kept2.none_ {N : Nat} {D : Nat → Option Nat} {a0 : Act} {l : Nat → Bool} {a : Act} (h : Kept2 N D a0 l a) {i : Nat} : Kept2 N D a0 (fun j => l j || j == i) a := fun s hs => h s (fun j hj hl => hs j hj (by simp [hl]))
def toD (i : Nat) : Option Nat := match i with | 0 => some 11 | 1 => some 12 | 2 => some 13 | 3 => some 14 | 4 => some 15 | 5 => some 16 | 6 => some 17 | 7 => some 18 | 8 => some 19 | 9 => some 20 | 10 => some 21 | 11 => some 22 | 12 => some 23 | 13 => some 24 | 14 => some 25 | 15 => some 26 | 16 => some 27 | 17 => some 28 | 18 => some 29 | 19 => some 30 | 20 => some 31 | 21 => some 3 | _ => none
theorem toD_inj : ∀ i, i < 22 → ∀ j, j < 22 → toD i = toD j → toD i ≠ none → i = j := by decide
theorem toD_lt : ∀ i, i < 22 → ∀ d, toD i = some d → d < 33 := by
  intro i hi d h
  have : ∀ i, i < 22 → (toD i).all (fun d => decide (d < 33)) = true := by decide
  have := this i hi
  rw [h] at this
  simpa using this
def toF (xa : Option Addr) (n ca k g0 g1 : Nat) (sa : Option Addr) (sn sc : Nat) (va : Option Addr) (vn vc : Nat) (da : Option Addr) (dn dc : Nat) (ta : Option Addr) (tc : Nat) (y : Addr) (s : Int) (f : Bool) (i : Nat) (q : Value) : Prop := match i with
  | 0 => q = .slice sa sn sc
  | 1 => q = .slice (some ⟨g0, 0, none⟩) 0 0
  | 2 => q = .slice xa n ca
  | 3 => q = .int .i64 (k : Nat)
  | 4 => q = .pointer (some y)
  | 5 => q = .pointer (some y)
  | 6 => q = .slice ta vn tc
  | 7 => q = .slice va vn vc
  | 8 => q = .slice xa n ca
  | 9 => q = .int .i64 (k : Nat)
  | 10 => q = .pointer (some y)
  | 11 => q = .pointer (some ⟨y.block, y.off + 1, none⟩)
  | 12 => q = .int .i64 s
  | 13 => q = .slice xa n ca
  | 14 => q = .int .i64 (k : Nat)
  | 15 => q = .pointer (some y)
  | 16 => q = .pointer (some ⟨y.block, y.off + 2, none⟩)
  | 17 => q = .bool f
  | 18 => q = .agg #[.slice va vn vc, .int .i64 s, .bool f]
  | 19 => q = .slice (some ⟨g1, 0, none⟩) 1 1
  | 20 => q = .slice da dn dc
  | 21 => q = .slice da dn dc
  | _ => True
def toR (w0 W1 W2 W3 W4 : World) (l : Nat → Bool) (w : World) : Prop := (l 1 = false → w = w0.drew) ∧ (l 1 = true → l 7 = false → w = W1) ∧ (l 7 = true → l 19 = false → w = W2) ∧ (l 19 = true → l 20 = false → w = W3) ∧ (l 20 = true → w = W4)

set_option maxHeartbeats 8000000 in
theorem to_region {id : Nat} {ops : Array Oper} {Q : Exit → Act → World → Prop} {a0 : Act} {w0 : World} (xa : Option Addr) (n ca k g0 g1 : Nat) (sa : Option Addr) (sn sc : Nat) (va : Option Addr) (vn vc : Nat) (da : Option Addr) (dn dc : Nat) (ta : Option Addr) (tc : Nat) (y : Addr) (s : Int) (f : Bool) (W1 W2 W3 W4 : World) (S : World → Prop) (hlow : lowB ops = true) (hsz : ops.size = 22)
    (o0 : OpIn ops 0 (some 11) (.move (.tmp 3)) none []) (o1 : OpIn ops 1 (some 12) (.buildSlice 29 0 #[]) none []) (o2 : OpIn ops 2 (some 13) (.move (.tmp 0)) none []) (o3 : OpIn ops 3 (some 14) (.move (.tmp 4)) none []) (o4 : OpIn ops 4 (some 15) (.indexAddr 22 (.tmp 13) (.tmp 14)) none [2, 3]) (o5 : OpIn ops 5 (some 16) (.fieldAddr 42 (.tmp 15) 0) none [4]) (o6 : OpIn ops 6 (some 17) (.load 29 (.tmp 16)) none [5]) (o7 : OpIn ops 7 (some 18) (.call { callee := .builtin .append, args := #[.tmp 12, .tmp 17], argTypes := #[29, 29] }) none [1, 6]) (o8 : OpIn ops 8 (some 19) (.move (.tmp 0)) none []) (o9 : OpIn ops 9 (some 20) (.move (.tmp 4)) none []) (o10 : OpIn ops 10 (some 21) (.indexAddr 22 (.tmp 19) (.tmp 20)) none [8, 9]) (o11 : OpIn ops 11 (some 22) (.fieldAddr 42 (.tmp 21) 1) none [10]) (o12 : OpIn ops 12 (some 23) (.load 2 (.tmp 22)) none [11]) (o13 : OpIn ops 13 (some 24) (.move (.tmp 0)) none []) (o14 : OpIn ops 14 (some 25) (.move (.tmp 4)) none []) (o15 : OpIn ops 15 (some 26) (.indexAddr 22 (.tmp 24) (.tmp 25)) none [13, 14]) (o16 : OpIn ops 16 (some 27) (.fieldAddr 42 (.tmp 26) 2) none [15]) (o17 : OpIn ops 17 (some 28) (.load 4 (.tmp 27)) none [16]) (o18 : OpIn ops 18 (some 29) (.build 40 #[(0, .tmp 18), (1, .tmp 23), (2, .tmp 28)]) none [7, 12, 17]) (o19 : OpIn ops 19 (some 30) (.buildSlice 27 1 #[(0, .tmp 29)]) none [18]) (o20 : OpIn ops 20 (some 31) (.call { callee := .builtin .append, args := #[.tmp 11, .tmp 30], argTypes := #[27, 27] }) none [0, 19]) (o21 : OpIn ops 21 (some 3) (.assign (.tmp 31)) none [0, 20])
    (ty7 : TypeId) (hty7 : ∀ o, ops[7]? = some o → o.type = ty7)
    (ty20 : TypeId) (hty20 : ∀ o, ops[20]? = some o → o.type = ty20)
    (hS0 : S (w0.drew)) (hS1 : S (W1)) (hS2 : S (W2)) (hS3 : S (W3))
    (x1 : (Instr.buildSlice 29 0 #[]).run Try.prog (w0.drew) = .ok (.slice (some ⟨g0, 0, none⟩) 0 0) W1)
    (x4 : ∀ w, (Instr.indexAt 22 (.slice xa n ca) (.int .i64 (k : Nat))).run Try.prog w = .ok (.pointer (some y)) w)
    (x5 : ∀ w, (Instr.fieldAt 42 (.pointer (some y)) 0).run Try.prog w = .ok (.pointer (some y)) w)
    (x6 : ∀ w, S w → (Instr.loadAt 29 (.pointer (some y))).run Try.prog w = .ok (.slice ta vn tc) w)
    (x7 : (Builtin.append_ #[29, 29] ty7 #[.slice (some ⟨g0, 0, none⟩) 0 0, .slice ta vn tc]).run Try.prog (W1) = .ok (.slice va vn vc) W2)
    (x10 : ∀ w, (Instr.indexAt 22 (.slice xa n ca) (.int .i64 (k : Nat))).run Try.prog w = .ok (.pointer (some y)) w)
    (x11 : ∀ w, (Instr.fieldAt 42 (.pointer (some y)) 1).run Try.prog w = .ok (.pointer (some ⟨y.block, y.off + 1, none⟩)) w)
    (x12 : ∀ w, S w → (Instr.loadAt 2 (.pointer (some ⟨y.block, y.off + 1, none⟩))).run Try.prog w = .ok (.int .i64 s) w)
    (x15 : ∀ w, (Instr.indexAt 22 (.slice xa n ca) (.int .i64 (k : Nat))).run Try.prog w = .ok (.pointer (some y)) w)
    (x16 : ∀ w, (Instr.fieldAt 42 (.pointer (some y)) 2).run Try.prog w = .ok (.pointer (some ⟨y.block, y.off + 2, none⟩)) w)
    (x17 : ∀ w, S w → (Instr.loadAt 4 (.pointer (some ⟨y.block, y.off + 2, none⟩))).run Try.prog w = .ok (.bool f) w)
    (x18 : ∀ w, (Instr.build 40 #[(0, .slice va vn vc), (1, .int .i64 s), (2, .bool f)]).run Try.prog w = .ok (.agg #[.slice va vn vc, .int .i64 s, .bool f]) w)
    (x19 : (Instr.buildSlice 27 1 #[(0, .agg #[.slice va vn vc, .int .i64 s, .bool f])]).run Try.prog (W2) = .ok (.slice (some ⟨g1, 0, none⟩) 1 1) W3)
    (x20 : (Builtin.append_ #[27, 27] ty20 #[.slice sa sn sc, .slice (some ⟨g1, 0, none⟩) 1 1]).run Try.prog (W3) = .ok (.slice da dn dc) W4)
    (u0 : a0.tmps.getD 0 undef = .slice xa n ca)
    (u3 : a0.tmps.getD 3 undef = .slice sa sn sc)
    (u4 : a0.tmps.getD 4 undef = .int .i64 (k : Nat))
    (hs : 33 ≤ a0.tmps.size)
    (fin : ∀ a, a.tmps.size = a0.tmps.size → a.defers = a0.defers → (∀ s, (∀ i, i < 22 → toD i ≠ some s) → a.tmps.getD s undef = a0.tmps.getD s undef) → (∀ i d, i < 22 → toD i = some d → toF xa n ca k g0 g1 sa sn sc va vn vc da dn dc ta tc y s f i (a.tmps.getD d undef)) → Q .normal a W4) : (Code.region id ops true).wp Try.prog Q a0 w0 := by
  refine wp_region_inv2 (by kernel_rfl) hlow (Inv 22 toD a0 (fun l a w => toR w0 W1 W2 W3 W4 l w ∧ Kept2 22 toD a0 l a) (fun _ i q _ => toF xa n ca k g0 g1 sa sn sc va vn vc da dn dc ta tc y s f i q)) (Inv.start ⟨⟨fun _ => rfl, (fun h => by cases h), (fun h => by cases h), (fun h => by cases h), (fun h => by cases h)⟩, kept2_start _ _ _⟩) ?_ ?_
  · intro l i o a w ho hl hcl hdep hI
    have hi : i < 22 := by rw [← hsz]; exact (Array.getElem?_eq_some_iff.1 ho).1
    have ev : ∀ (s : Nat), a.eval (.tmp s) = a.tmps.getD s undef := fun _ => rfl
    have evc : ∀ c : Value, a.eval (.const c) = c := fun _ => rfl
    have inj : ∀ d, toD i = some d → ∀ j d', j < 22 → toD j = some d' → j ≠ i → d' ≠ d := fun d hd j d' hj hd' hne e => hne (toD_inj j hj i hi (by rw [hd', hd, e]) (by rw [hd']; simp))
    have kp : ∀ s, (∀ i, i < 22 → toD i ≠ some s) → a.tmps.getD s undef = a0.tmps.getD s undef := hI.kept
    have k2 := hI.world.2
    have oth : ∀ j, j ≠ i → (l j || j == i) = l j := fun j hj => by rw [show (j == i) = false by simp [hj], Bool.or_false]
    have sam : (l i || i == i) = true := by simp
    have go : ∀ {d : Nat} {v : Value}, toD i = some d → (i ≠ 1 ∧ i ≠ 7 ∧ i ≠ 19 ∧ i ≠ 20) → toF xa n ca k g0 g1 sa sn sc va vn vc da dn dc ta tc y s f i v → Inv 22 toD a0 (fun l a w => toR w0 W1 W2 W3 W4 l w ∧ Kept2 22 toD a0 l a) (fun _ i q _ => toF xa n ca k g0 g1 sa sn sc va vn vc da dn dc ta tc y s f i q) (fun j => l j || j == i) (a.put (some d) v) w := by
      intro d v hD hi' hF
      refine hI.put hi hD (Nat.lt_of_lt_of_le (toD_lt i hi d hD) hs) (inj d hD) ⟨?_, k2.put hD (by rw [hI.size]; exact Nat.lt_of_lt_of_le (toD_lt i hi d hD) hs) hi⟩ hF (fun j u _ _ _ hf => hf)
      show toR w0 W1 W2 W3 W4 _ w
      unfold toR
      dsimp only
      rw [oth 1 (by omega), oth 7 (by omega), oth 19 (by omega), oth 20 (by omega)]
      exact hI.world.1
    have hSw : l 20 = false → S w := fun hc => by
      cases e0 : l 1 with
      | false => rw [hI.world.1.1 e0]; exact hS0
      | true =>
        cases e1 : l 7 with
        | false => rw [hI.world.1.2.1 e0 e1]; exact hS1
        | true =>
          cases e2 : l 19 with
          | false => rw [hI.world.1.2.2.1 e1 e2]; exact hS2
          | true =>
            rw [hI.world.1.2.2.2.1 e2 hc]; exact hS3
    rcases (show i = 0 ∨ i = 1 ∨ i = 2 ∨ i = 3 ∨ i = 4 ∨ i = 5 ∨ i = 6 ∨ i = 7 ∨ i = 8 ∨ i = 9 ∨ i = 10 ∨ i = 11 ∨ i = 12 ∨ i = 13 ∨ i = 14 ∨ i = 15 ∨ i = 16 ∨ i = 17 ∨ i = 18 ∨ i = 19 ∨ i = 20 ∨ i = 21 by omega) with rfl | rfl | rfl | rfl | rfl | rfl | rfl | rfl | rfl | rfl | rfl | rfl | rfl | rfl | rfl | rfl | rfl | rfl | rfl | rfl | rfl | rfl
    · obtain ⟨o', e1, e2, e3, e4, e5⟩ := o0
      obtain rfl := Option.some.inj (ho.symm.trans e1)
      have dp := dep_of' e5 hdep
      have U3 : a.tmps.getD 3 undef = .slice sa sn sc := (k2 3 (fun j hj hjl e => by
        obtain rfl := toD_inj j hj 21 (by decide) (e.trans rfl) (by rw [e]; simp)
        have y0 := hcl.dep' o21 hjl 0 (by decide)
        rw [hl] at y0
        cases y0)).trans u3
      exact wpOp_value (v := .slice sa sn sc) (w' := w) ho e4 (by simp [execOp, e3, ev, evc, U3]) (by rw [e2]; exact go rfl (by decide) rfl)
    · obtain ⟨o', e1, e2, e3, e4, e5⟩ := o1
      obtain rfl := Option.some.inj (ho.symm.trans e1)
      have dp := dep_of' e5 hdep
      have n7 : l 7 = false := by
        cases e : l 7 with
        | false => rfl
        | true =>
          exfalso
          have y0 := hcl.dep' o7 e 1 (by decide)
          rw [hl] at y0
          cases y0
      have n19 : l 19 = false := by
        cases e : l 19 with
        | false => rfl
        | true =>
          exfalso
          have y0 := hcl.dep' o19 e 18 (by decide)
          have y1 := hcl.dep' o18 y0 7 (by decide)
          have y2 := hcl.dep' o7 y1 1 (by decide)
          rw [hl] at y2
          cases y2
      have n20 : l 20 = false := by
        cases e : l 20 with
        | false => rfl
        | true =>
          exfalso
          have y0 := hcl.dep' o20 e 19 (by decide)
          have y1 := hcl.dep' o19 y0 18 (by decide)
          have y2 := hcl.dep' o18 y1 7 (by decide)
          have y3 := hcl.dep' o7 y2 1 (by decide)
          rw [hl] at y3
          cases y3
      obtain rfl : w = w0.drew := hI.world.1.1 hl
      refine wpOp_value (v := .slice (some ⟨g0, 0, none⟩) 0 0) (w' := W1) ho e4 (by simp [execOp, e3, ev, evc, x1]) ?_
      rw [e2]
      refine hI.put hi rfl (Nat.lt_of_lt_of_le (by decide) hs) (inj 12 rfl) ⟨?_, k2.put rfl (by rw [hI.size]; exact Nat.lt_of_lt_of_le (by decide) hs) hi⟩ rfl (fun j u _ _ _ hf => hf)
      show toR _ _ _ _ _ _ _
      unfold toR
      dsimp only
      rw [sam, oth 7 (by decide), oth 19 (by decide), oth 20 (by decide)]
      exact ⟨(fun h => by cases h), (fun _ _ => rfl), (fun h => by rw [n7] at h; cases h), (fun h => by rw [n19] at h; cases h), (fun h => by rw [n20] at h; cases h)⟩
    · obtain ⟨o', e1, e2, e3, e4, e5⟩ := o2
      obtain rfl := Option.some.inj (ho.symm.trans e1)
      have dp := dep_of' e5 hdep
      have U0 : a.tmps.getD 0 undef = .slice xa n ca := (kp 0 (by decide)).trans u0
      exact wpOp_value (v := .slice xa n ca) (w' := w) ho e4 (by simp [execOp, e3, ev, evc, U0]) (by rw [e2]; exact go rfl (by decide) rfl)
    · obtain ⟨o', e1, e2, e3, e4, e5⟩ := o3
      obtain rfl := Option.some.inj (ho.symm.trans e1)
      have dp := dep_of' e5 hdep
      have U4 : a.tmps.getD 4 undef = .int .i64 (k : Nat) := (kp 4 (by decide)).trans u4
      exact wpOp_value (v := .int .i64 (k : Nat)) (w' := w) ho e4 (by simp [execOp, e3, ev, evc, U4]) (by rw [e2]; exact go rfl (by decide) rfl)
    · obtain ⟨o', e1, e2, e3, e4, e5⟩ := o4
      obtain rfl := Option.some.inj (ho.symm.trans e1)
      have dp := dep_of' e5 hdep
      have V2 : a.tmps.getD 13 undef = .slice xa n ca := hI.val 2 13 (by decide) rfl (dp 2 (by decide))
      have V3 : a.tmps.getD 14 undef = .int .i64 (k : Nat) := hI.val 3 14 (by decide) rfl (dp 3 (by decide))
      exact wpOp_value (v := .pointer (some y)) (w' := w) ho e4 (by simp [execOp, e3, ev, evc, V2, V3, x4 w]) (by rw [e2]; exact go rfl (by decide) rfl)
    · obtain ⟨o', e1, e2, e3, e4, e5⟩ := o5
      obtain rfl := Option.some.inj (ho.symm.trans e1)
      have dp := dep_of' e5 hdep
      have V4 : a.tmps.getD 15 undef = .pointer (some y) := hI.val 4 15 (by decide) rfl (dp 4 (by decide))
      exact wpOp_value (v := .pointer (some y)) (w' := w) ho e4 (by simp [execOp, e3, ev, evc, V4, x5 w]) (by rw [e2]; exact go rfl (by decide) rfl)
    · obtain ⟨o', e1, e2, e3, e4, e5⟩ := o6
      obtain rfl := Option.some.inj (ho.symm.trans e1)
      have dp := dep_of' e5 hdep
      have V5 : a.tmps.getD 16 undef = .pointer (some y) := hI.val 5 16 (by decide) rfl (dp 5 (by decide))
      have n20 : l 20 = false := by
        cases e : l 20 with
        | false => rfl
        | true =>
          exfalso
          have y0 := hcl.dep' o20 e 19 (by decide)
          have y1 := hcl.dep' o19 y0 18 (by decide)
          have y2 := hcl.dep' o18 y1 7 (by decide)
          have y3 := hcl.dep' o7 y2 6 (by decide)
          rw [hl] at y3
          cases y3
      exact wpOp_value (v := .slice ta vn tc) (w' := w) ho e4 (by simp [execOp, e3, ev, evc, V5, x6 w (hSw n20)]) (by rw [e2]; exact go rfl (by decide) rfl)
    · obtain ⟨o', e1, e2, e3, e4, e5⟩ := o7
      obtain rfl := Option.some.inj (ho.symm.trans e1)
      have dp := dep_of' e5 hdep
      have V1 : a.tmps.getD 12 undef = .slice (some ⟨g0, 0, none⟩) 0 0 := hI.val 1 12 (by decide) rfl (dp 1 (by decide))
      have V6 : a.tmps.getD 17 undef = .slice ta vn tc := hI.val 6 17 (by decide) rfl (dp 6 (by decide))
      have n19 : l 19 = false := by
        cases e : l 19 with
        | false => rfl
        | true =>
          exfalso
          have y0 := hcl.dep' o19 e 18 (by decide)
          have y1 := hcl.dep' o18 y0 7 (by decide)
          rw [hl] at y1
          cases y1
      have n20 : l 20 = false := by
        cases e : l 20 with
        | false => rfl
        | true =>
          exfalso
          have y0 := hcl.dep' o20 e 19 (by decide)
          have y1 := hcl.dep' o19 y0 18 (by decide)
          have y2 := hcl.dep' o18 y1 7 (by decide)
          rw [hl] at y2
          cases y2
      have z1_0 := dp 1 (by decide)
      have d1 : l 1 = true := z1_0
      obtain rfl : w = W1 := hI.world.1.2.1 d1 hl
      refine wpOp_value (v := .slice va vn vc) (w' := W2) ho e4 (by simp only [execOp, e3, resolve, invoke, builtin, Sem.run_bind, Sem.run_pure, Result.andThen_ok, List.map_toArray, List.map_cons, List.map_nil, ev, V1, V6, hty7 _ ho, x7]) ?_
      rw [e2]
      refine hI.put hi rfl (Nat.lt_of_lt_of_le (by decide) hs) (inj 18 rfl) ⟨?_, k2.put rfl (by rw [hI.size]; exact Nat.lt_of_lt_of_le (by decide) hs) hi⟩ rfl (fun j u _ _ _ hf => hf)
      show toR _ _ _ _ _ _ _
      unfold toR
      dsimp only
      rw [sam, oth 1 (by decide), oth 19 (by decide), oth 20 (by decide)]
      exact ⟨(fun h => by rw [d1] at h; cases h), (fun _ h => by cases h), (fun _ _ => rfl), (fun h => by rw [n19] at h; cases h), (fun h => by rw [n20] at h; cases h)⟩
    · obtain ⟨o', e1, e2, e3, e4, e5⟩ := o8
      obtain rfl := Option.some.inj (ho.symm.trans e1)
      have dp := dep_of' e5 hdep
      have U0 : a.tmps.getD 0 undef = .slice xa n ca := (kp 0 (by decide)).trans u0
      exact wpOp_value (v := .slice xa n ca) (w' := w) ho e4 (by simp [execOp, e3, ev, evc, U0]) (by rw [e2]; exact go rfl (by decide) rfl)
    · obtain ⟨o', e1, e2, e3, e4, e5⟩ := o9
      obtain rfl := Option.some.inj (ho.symm.trans e1)
      have dp := dep_of' e5 hdep
      have U4 : a.tmps.getD 4 undef = .int .i64 (k : Nat) := (kp 4 (by decide)).trans u4
      exact wpOp_value (v := .int .i64 (k : Nat)) (w' := w) ho e4 (by simp [execOp, e3, ev, evc, U4]) (by rw [e2]; exact go rfl (by decide) rfl)
    · obtain ⟨o', e1, e2, e3, e4, e5⟩ := o10
      obtain rfl := Option.some.inj (ho.symm.trans e1)
      have dp := dep_of' e5 hdep
      have V8 : a.tmps.getD 19 undef = .slice xa n ca := hI.val 8 19 (by decide) rfl (dp 8 (by decide))
      have V9 : a.tmps.getD 20 undef = .int .i64 (k : Nat) := hI.val 9 20 (by decide) rfl (dp 9 (by decide))
      exact wpOp_value (v := .pointer (some y)) (w' := w) ho e4 (by simp [execOp, e3, ev, evc, V8, V9, x10 w]) (by rw [e2]; exact go rfl (by decide) rfl)
    · obtain ⟨o', e1, e2, e3, e4, e5⟩ := o11
      obtain rfl := Option.some.inj (ho.symm.trans e1)
      have dp := dep_of' e5 hdep
      have V10 : a.tmps.getD 21 undef = .pointer (some y) := hI.val 10 21 (by decide) rfl (dp 10 (by decide))
      exact wpOp_value (v := .pointer (some ⟨y.block, y.off + 1, none⟩)) (w' := w) ho e4 (by simp [execOp, e3, ev, evc, V10, x11 w]) (by rw [e2]; exact go rfl (by decide) rfl)
    · obtain ⟨o', e1, e2, e3, e4, e5⟩ := o12
      obtain rfl := Option.some.inj (ho.symm.trans e1)
      have dp := dep_of' e5 hdep
      have V11 : a.tmps.getD 22 undef = .pointer (some ⟨y.block, y.off + 1, none⟩) := hI.val 11 22 (by decide) rfl (dp 11 (by decide))
      have n20 : l 20 = false := by
        cases e : l 20 with
        | false => rfl
        | true =>
          exfalso
          have y0 := hcl.dep' o20 e 19 (by decide)
          have y1 := hcl.dep' o19 y0 18 (by decide)
          have y2 := hcl.dep' o18 y1 12 (by decide)
          rw [hl] at y2
          cases y2
      exact wpOp_value (v := .int .i64 s) (w' := w) ho e4 (by simp [execOp, e3, ev, evc, V11, x12 w (hSw n20)]) (by rw [e2]; exact go rfl (by decide) rfl)
    · obtain ⟨o', e1, e2, e3, e4, e5⟩ := o13
      obtain rfl := Option.some.inj (ho.symm.trans e1)
      have dp := dep_of' e5 hdep
      have U0 : a.tmps.getD 0 undef = .slice xa n ca := (kp 0 (by decide)).trans u0
      exact wpOp_value (v := .slice xa n ca) (w' := w) ho e4 (by simp [execOp, e3, ev, evc, U0]) (by rw [e2]; exact go rfl (by decide) rfl)
    · obtain ⟨o', e1, e2, e3, e4, e5⟩ := o14
      obtain rfl := Option.some.inj (ho.symm.trans e1)
      have dp := dep_of' e5 hdep
      have U4 : a.tmps.getD 4 undef = .int .i64 (k : Nat) := (kp 4 (by decide)).trans u4
      exact wpOp_value (v := .int .i64 (k : Nat)) (w' := w) ho e4 (by simp [execOp, e3, ev, evc, U4]) (by rw [e2]; exact go rfl (by decide) rfl)
    · obtain ⟨o', e1, e2, e3, e4, e5⟩ := o15
      obtain rfl := Option.some.inj (ho.symm.trans e1)
      have dp := dep_of' e5 hdep
      have V13 : a.tmps.getD 24 undef = .slice xa n ca := hI.val 13 24 (by decide) rfl (dp 13 (by decide))
      have V14 : a.tmps.getD 25 undef = .int .i64 (k : Nat) := hI.val 14 25 (by decide) rfl (dp 14 (by decide))
      exact wpOp_value (v := .pointer (some y)) (w' := w) ho e4 (by simp [execOp, e3, ev, evc, V13, V14, x15 w]) (by rw [e2]; exact go rfl (by decide) rfl)
    · obtain ⟨o', e1, e2, e3, e4, e5⟩ := o16
      obtain rfl := Option.some.inj (ho.symm.trans e1)
      have dp := dep_of' e5 hdep
      have V15 : a.tmps.getD 26 undef = .pointer (some y) := hI.val 15 26 (by decide) rfl (dp 15 (by decide))
      exact wpOp_value (v := .pointer (some ⟨y.block, y.off + 2, none⟩)) (w' := w) ho e4 (by simp [execOp, e3, ev, evc, V15, x16 w]) (by rw [e2]; exact go rfl (by decide) rfl)
    · obtain ⟨o', e1, e2, e3, e4, e5⟩ := o17
      obtain rfl := Option.some.inj (ho.symm.trans e1)
      have dp := dep_of' e5 hdep
      have V16 : a.tmps.getD 27 undef = .pointer (some ⟨y.block, y.off + 2, none⟩) := hI.val 16 27 (by decide) rfl (dp 16 (by decide))
      have n20 : l 20 = false := by
        cases e : l 20 with
        | false => rfl
        | true =>
          exfalso
          have y0 := hcl.dep' o20 e 19 (by decide)
          have y1 := hcl.dep' o19 y0 18 (by decide)
          have y2 := hcl.dep' o18 y1 17 (by decide)
          rw [hl] at y2
          cases y2
      exact wpOp_value (v := .bool f) (w' := w) ho e4 (by simp [execOp, e3, ev, evc, V16, x17 w (hSw n20)]) (by rw [e2]; exact go rfl (by decide) rfl)
    · obtain ⟨o', e1, e2, e3, e4, e5⟩ := o18
      obtain rfl := Option.some.inj (ho.symm.trans e1)
      have dp := dep_of' e5 hdep
      have V7 : a.tmps.getD 18 undef = .slice va vn vc := hI.val 7 18 (by decide) rfl (dp 7 (by decide))
      have V12 : a.tmps.getD 23 undef = .int .i64 s := hI.val 12 23 (by decide) rfl (dp 12 (by decide))
      have V17 : a.tmps.getD 28 undef = .bool f := hI.val 17 28 (by decide) rfl (dp 17 (by decide))
      exact wpOp_value (v := .agg #[.slice va vn vc, .int .i64 s, .bool f]) (w' := w) ho e4 (by simp [execOp, e3, ev, evc, V7, V12, V17, x18 w]) (by rw [e2]; exact go rfl (by decide) rfl)
    · obtain ⟨o', e1, e2, e3, e4, e5⟩ := o19
      obtain rfl := Option.some.inj (ho.symm.trans e1)
      have dp := dep_of' e5 hdep
      have V18 : a.tmps.getD 29 undef = .agg #[.slice va vn vc, .int .i64 s, .bool f] := hI.val 18 29 (by decide) rfl (dp 18 (by decide))
      have n20 : l 20 = false := by
        cases e : l 20 with
        | false => rfl
        | true =>
          exfalso
          have y0 := hcl.dep' o20 e 19 (by decide)
          rw [hl] at y0
          cases y0
      have z1_0 := dp 18 (by decide)
      have z1_1 := hcl.dep' o18 z1_0 7 (by decide)
      have z1_2 := hcl.dep' o7 z1_1 1 (by decide)
      have d1 : l 1 = true := z1_2
      have z7_0 := dp 18 (by decide)
      have z7_1 := hcl.dep' o18 z7_0 7 (by decide)
      have d7 : l 7 = true := z7_1
      obtain rfl : w = W2 := hI.world.1.2.2.1 d7 hl
      refine wpOp_value (v := .slice (some ⟨g1, 0, none⟩) 1 1) (w' := W3) ho e4 (by simp [execOp, e3, ev, evc, V18, x19]) ?_
      rw [e2]
      refine hI.put hi rfl (Nat.lt_of_lt_of_le (by decide) hs) (inj 30 rfl) ⟨?_, k2.put rfl (by rw [hI.size]; exact Nat.lt_of_lt_of_le (by decide) hs) hi⟩ rfl (fun j u _ _ _ hf => hf)
      show toR _ _ _ _ _ _ _
      unfold toR
      dsimp only
      rw [sam, oth 1 (by decide), oth 7 (by decide), oth 20 (by decide)]
      exact ⟨(fun h => by rw [d1] at h; cases h), (fun _ h => by rw [d7] at h; cases h), (fun _ h => by cases h), (fun _ _ => rfl), (fun h => by rw [n20] at h; cases h)⟩
    · obtain ⟨o', e1, e2, e3, e4, e5⟩ := o20
      obtain rfl := Option.some.inj (ho.symm.trans e1)
      have dp := dep_of' e5 hdep
      have V0 : a.tmps.getD 11 undef = .slice sa sn sc := hI.val 0 11 (by decide) rfl (dp 0 (by decide))
      have V19 : a.tmps.getD 30 undef = .slice (some ⟨g1, 0, none⟩) 1 1 := hI.val 19 30 (by decide) rfl (dp 19 (by decide))
      have z1_0 := dp 19 (by decide)
      have z1_1 := hcl.dep' o19 z1_0 18 (by decide)
      have z1_2 := hcl.dep' o18 z1_1 7 (by decide)
      have z1_3 := hcl.dep' o7 z1_2 1 (by decide)
      have d1 : l 1 = true := z1_3
      have z7_0 := dp 19 (by decide)
      have z7_1 := hcl.dep' o19 z7_0 18 (by decide)
      have z7_2 := hcl.dep' o18 z7_1 7 (by decide)
      have d7 : l 7 = true := z7_2
      have z19_0 := dp 19 (by decide)
      have d19 : l 19 = true := z19_0
      obtain rfl : w = W3 := hI.world.1.2.2.2.1 d19 hl
      refine wpOp_value (v := .slice da dn dc) (w' := W4) ho e4 (by simp only [execOp, e3, resolve, invoke, builtin, Sem.run_bind, Sem.run_pure, Result.andThen_ok, List.map_toArray, List.map_cons, List.map_nil, ev, V0, V19, hty20 _ ho, x20]) ?_
      rw [e2]
      refine hI.put hi rfl (Nat.lt_of_lt_of_le (by decide) hs) (inj 31 rfl) ⟨?_, k2.put rfl (by rw [hI.size]; exact Nat.lt_of_lt_of_le (by decide) hs) hi⟩ rfl (fun j u _ _ _ hf => hf)
      show toR _ _ _ _ _ _ _
      unfold toR
      dsimp only
      rw [sam, oth 1 (by decide), oth 7 (by decide), oth 19 (by decide)]
      exact ⟨(fun h => by rw [d1] at h; cases h), (fun _ h => by rw [d7] at h; cases h), (fun _ h => by rw [d19] at h; cases h), (fun _ h => by cases h), (fun _ => rfl)⟩
    · obtain ⟨o', e1, e2, e3, e4, e5⟩ := o21
      obtain rfl := Option.some.inj (ho.symm.trans e1)
      have dp := dep_of' e5 hdep
      have V0 : a.tmps.getD 11 undef = .slice sa sn sc := hI.val 0 11 (by decide) rfl (dp 0 (by decide))
      have V20 : a.tmps.getD 31 undef = .slice da dn dc := hI.val 20 31 (by decide) rfl (dp 20 (by decide))
      exact wpOp_value (v := .slice da dn dc) (w' := w) ho e4 (by simp [execOp, e3, ev, evc, V0, V20]) (by rw [e2]; exact go rfl (by decide) rfl)
  · intro l a w hall hI
    have all : ∀ j, j < 22 → l j = true := fun j hj => hall j (by rw [hsz]; exact hj)
    obtain rfl := hI.world.1.2.2.2.2 (all 20 (by decide))
    exact fin a hI.size hI.defers hI.kept (fun i d hi hD => hI.val i d hi hD (all i hi))

def frD (i : Nat) : Option Nat := match i with | 0 => some 11 | 1 => some 12 | 2 => some 13 | 3 => some 14 | 4 => some 15 | 5 => some 16 | 6 => some 17 | 7 => some 18 | 8 => some 19 | 9 => some 20 | 10 => some 21 | 11 => some 22 | 12 => some 23 | 13 => some 24 | 14 => some 25 | 15 => some 26 | 16 => some 27 | 17 => some 28 | 18 => some 29 | 19 => some 3 | _ => none
theorem frD_inj : ∀ i, i < 20 → ∀ j, j < 20 → frD i = frD j → frD i ≠ none → i = j := by decide
theorem frD_lt : ∀ i, i < 20 → ∀ d, frD i = some d → d < 31 := by
  intro i hi d h
  have : ∀ i, i < 20 → (frD i).all (fun d => decide (d < 31)) = true := by decide
  have := this i hi
  rw [h] at this
  simpa using this
def frF (xa : Option Addr) (n ca k g1 : Nat) (sa : Option Addr) (sn sc : Nat) (da : Option Addr) (dn dc : Nat) (ta : Option Addr) (vn tc : Nat) (y : Addr) (s : Int) (f : Bool) (i : Nat) (q : Value) : Prop := match i with
  | 0 => q = .slice sa sn sc
  | 1 => q = .slice xa n ca
  | 2 => q = .int .i64 (k : Nat)
  | 3 => q = .pointer (some y)
  | 4 => q = .pointer (some y)
  | 5 => q = .slice ta vn tc
  | 6 => q = .slice xa n ca
  | 7 => q = .int .i64 (k : Nat)
  | 8 => q = .pointer (some y)
  | 9 => q = .pointer (some ⟨y.block, y.off + 1, none⟩)
  | 10 => q = .int .i64 s
  | 11 => q = .slice xa n ca
  | 12 => q = .int .i64 (k : Nat)
  | 13 => q = .pointer (some y)
  | 14 => q = .pointer (some ⟨y.block, y.off + 2, none⟩)
  | 15 => q = .bool f
  | 16 => q = .agg #[.slice ta vn tc, .int .i64 s, .bool f]
  | 17 => q = .slice (some ⟨g1, 0, none⟩) 1 1
  | 18 => q = .slice da dn dc
  | 19 => q = .slice da dn dc
  | _ => True
def frR (w0 W1 W2 : World) (l : Nat → Bool) (w : World) : Prop := (l 17 = false → w = w0.drew) ∧ (l 17 = true → l 18 = false → w = W1) ∧ (l 18 = true → w = W2)

set_option maxHeartbeats 8000000 in
theorem fr_region {id : Nat} {ops : Array Oper} {Q : Exit → Act → World → Prop} {a0 : Act} {w0 : World} (xa : Option Addr) (n ca k g1 : Nat) (sa : Option Addr) (sn sc : Nat) (da : Option Addr) (dn dc : Nat) (ta : Option Addr) (vn tc : Nat) (y : Addr) (s : Int) (f : Bool) (W1 W2 : World) (S : World → Prop) (hlow : lowB ops = true) (hsz : ops.size = 20)
    (o0 : OpIn ops 0 (some 11) (.move (.tmp 3)) none []) (o1 : OpIn ops 1 (some 12) (.move (.tmp 0)) none []) (o2 : OpIn ops 2 (some 13) (.move (.tmp 4)) none []) (o3 : OpIn ops 3 (some 14) (.indexAddr 27 (.tmp 12) (.tmp 13)) none [1, 2]) (o4 : OpIn ops 4 (some 15) (.fieldAddr 40 (.tmp 14) 0) none [3]) (o5 : OpIn ops 5 (some 16) (.load 29 (.tmp 15)) none [4]) (o6 : OpIn ops 6 (some 17) (.move (.tmp 0)) none []) (o7 : OpIn ops 7 (some 18) (.move (.tmp 4)) none []) (o8 : OpIn ops 8 (some 19) (.indexAddr 27 (.tmp 17) (.tmp 18)) none [6, 7]) (o9 : OpIn ops 9 (some 20) (.fieldAddr 40 (.tmp 19) 1) none [8]) (o10 : OpIn ops 10 (some 21) (.load 2 (.tmp 20)) none [9]) (o11 : OpIn ops 11 (some 22) (.move (.tmp 0)) none []) (o12 : OpIn ops 12 (some 23) (.move (.tmp 4)) none []) (o13 : OpIn ops 13 (some 24) (.indexAddr 27 (.tmp 22) (.tmp 23)) none [11, 12]) (o14 : OpIn ops 14 (some 25) (.fieldAddr 40 (.tmp 24) 2) none [13]) (o15 : OpIn ops 15 (some 26) (.load 4 (.tmp 25)) none [14]) (o16 : OpIn ops 16 (some 27) (.build 42 #[(0, .tmp 16), (1, .tmp 21), (2, .tmp 26)]) none [5, 10, 15]) (o17 : OpIn ops 17 (some 28) (.buildSlice 22 1 #[(0, .tmp 27)]) none [16]) (o18 : OpIn ops 18 (some 29) (.call { callee := .builtin .append, args := #[.tmp 11, .tmp 28], argTypes := #[22, 22] }) none [0, 17]) (o19 : OpIn ops 19 (some 3) (.assign (.tmp 29)) none [0, 18])
    (ty18 : TypeId) (hty18 : ∀ o, ops[18]? = some o → o.type = ty18)
    (hS0 : S (w0.drew)) (hS1 : S (W1))
    (x3 : ∀ w, (Instr.indexAt 27 (.slice xa n ca) (.int .i64 (k : Nat))).run Try.prog w = .ok (.pointer (some y)) w)
    (x4 : ∀ w, (Instr.fieldAt 40 (.pointer (some y)) 0).run Try.prog w = .ok (.pointer (some y)) w)
    (x5 : ∀ w, S w → (Instr.loadAt 29 (.pointer (some y))).run Try.prog w = .ok (.slice ta vn tc) w)
    (x8 : ∀ w, (Instr.indexAt 27 (.slice xa n ca) (.int .i64 (k : Nat))).run Try.prog w = .ok (.pointer (some y)) w)
    (x9 : ∀ w, (Instr.fieldAt 40 (.pointer (some y)) 1).run Try.prog w = .ok (.pointer (some ⟨y.block, y.off + 1, none⟩)) w)
    (x10 : ∀ w, S w → (Instr.loadAt 2 (.pointer (some ⟨y.block, y.off + 1, none⟩))).run Try.prog w = .ok (.int .i64 s) w)
    (x13 : ∀ w, (Instr.indexAt 27 (.slice xa n ca) (.int .i64 (k : Nat))).run Try.prog w = .ok (.pointer (some y)) w)
    (x14 : ∀ w, (Instr.fieldAt 40 (.pointer (some y)) 2).run Try.prog w = .ok (.pointer (some ⟨y.block, y.off + 2, none⟩)) w)
    (x15 : ∀ w, S w → (Instr.loadAt 4 (.pointer (some ⟨y.block, y.off + 2, none⟩))).run Try.prog w = .ok (.bool f) w)
    (x16 : ∀ w, (Instr.build 42 #[(0, .slice ta vn tc), (1, .int .i64 s), (2, .bool f)]).run Try.prog w = .ok (.agg #[.slice ta vn tc, .int .i64 s, .bool f]) w)
    (x17 : (Instr.buildSlice 22 1 #[(0, .agg #[.slice ta vn tc, .int .i64 s, .bool f])]).run Try.prog (w0.drew) = .ok (.slice (some ⟨g1, 0, none⟩) 1 1) W1)
    (x18 : (Builtin.append_ #[22, 22] ty18 #[.slice sa sn sc, .slice (some ⟨g1, 0, none⟩) 1 1]).run Try.prog (W1) = .ok (.slice da dn dc) W2)
    (u0 : a0.tmps.getD 0 undef = .slice xa n ca)
    (u3 : a0.tmps.getD 3 undef = .slice sa sn sc)
    (u4 : a0.tmps.getD 4 undef = .int .i64 (k : Nat))
    (hs : 31 ≤ a0.tmps.size)
    (fin : ∀ a, a.tmps.size = a0.tmps.size → a.defers = a0.defers → (∀ s, (∀ i, i < 20 → frD i ≠ some s) → a.tmps.getD s undef = a0.tmps.getD s undef) → (∀ i d, i < 20 → frD i = some d → frF xa n ca k g1 sa sn sc da dn dc ta vn tc y s f i (a.tmps.getD d undef)) → Q .normal a W2) : (Code.region id ops true).wp Try.prog Q a0 w0 := by
  refine wp_region_inv2 (by kernel_rfl) hlow (Inv 20 frD a0 (fun l a w => frR w0 W1 W2 l w ∧ Kept2 20 frD a0 l a) (fun _ i q _ => frF xa n ca k g1 sa sn sc da dn dc ta vn tc y s f i q)) (Inv.start ⟨⟨fun _ => rfl, (fun h => by cases h), (fun h => by cases h)⟩, kept2_start _ _ _⟩) ?_ ?_
  · intro l i o a w ho hl hcl hdep hI
    have hi : i < 20 := by rw [← hsz]; exact (Array.getElem?_eq_some_iff.1 ho).1
    have ev : ∀ (s : Nat), a.eval (.tmp s) = a.tmps.getD s undef := fun _ => rfl
    have evc : ∀ c : Value, a.eval (.const c) = c := fun _ => rfl
    have inj : ∀ d, frD i = some d → ∀ j d', j < 20 → frD j = some d' → j ≠ i → d' ≠ d := fun d hd j d' hj hd' hne e => hne (frD_inj j hj i hi (by rw [hd', hd, e]) (by rw [hd']; simp))
    have kp : ∀ s, (∀ i, i < 20 → frD i ≠ some s) → a.tmps.getD s undef = a0.tmps.getD s undef := hI.kept
    have k2 := hI.world.2
    have oth : ∀ j, j ≠ i → (l j || j == i) = l j := fun j hj => by rw [show (j == i) = false by simp [hj], Bool.or_false]
    have sam : (l i || i == i) = true := by simp
    have go : ∀ {d : Nat} {v : Value}, frD i = some d → (i ≠ 17 ∧ i ≠ 18) → frF xa n ca k g1 sa sn sc da dn dc ta vn tc y s f i v → Inv 20 frD a0 (fun l a w => frR w0 W1 W2 l w ∧ Kept2 20 frD a0 l a) (fun _ i q _ => frF xa n ca k g1 sa sn sc da dn dc ta vn tc y s f i q) (fun j => l j || j == i) (a.put (some d) v) w := by
      intro d v hD hi' hF
      refine hI.put hi hD (Nat.lt_of_lt_of_le (frD_lt i hi d hD) hs) (inj d hD) ⟨?_, k2.put hD (by rw [hI.size]; exact Nat.lt_of_lt_of_le (frD_lt i hi d hD) hs) hi⟩ hF (fun j u _ _ _ hf => hf)
      show frR w0 W1 W2 _ w
      unfold frR
      dsimp only
      rw [oth 17 (by omega), oth 18 (by omega)]
      exact hI.world.1
    have hSw : l 18 = false → S w := fun hc => by
      cases e0 : l 17 with
      | false => rw [hI.world.1.1 e0]; exact hS0
      | true =>
        rw [hI.world.1.2.1 e0 hc]; exact hS1
    rcases (show i = 0 ∨ i = 1 ∨ i = 2 ∨ i = 3 ∨ i = 4 ∨ i = 5 ∨ i = 6 ∨ i = 7 ∨ i = 8 ∨ i = 9 ∨ i = 10 ∨ i = 11 ∨ i = 12 ∨ i = 13 ∨ i = 14 ∨ i = 15 ∨ i = 16 ∨ i = 17 ∨ i = 18 ∨ i = 19 by omega) with rfl | rfl | rfl | rfl | rfl | rfl | rfl | rfl | rfl | rfl | rfl | rfl | rfl | rfl | rfl | rfl | rfl | rfl | rfl | rfl
    · obtain ⟨o', e1, e2, e3, e4, e5⟩ := o0
      obtain rfl := Option.some.inj (ho.symm.trans e1)
      have dp := dep_of' e5 hdep
      have U3 : a.tmps.getD 3 undef = .slice sa sn sc := (k2 3 (fun j hj hjl e => by
        obtain rfl := frD_inj j hj 19 (by decide) (e.trans rfl) (by rw [e]; simp)
        have y0 := hcl.dep' o19 hjl 0 (by decide)
        rw [hl] at y0
        cases y0)).trans u3
      exact wpOp_value (v := .slice sa sn sc) (w' := w) ho e4 (by simp [execOp, e3, ev, evc, U3]) (by rw [e2]; exact go rfl (by decide) rfl)
    · obtain ⟨o', e1, e2, e3, e4, e5⟩ := o1
      obtain rfl := Option.some.inj (ho.symm.trans e1)
      have dp := dep_of' e5 hdep
      have U0 : a.tmps.getD 0 undef = .slice xa n ca := (kp 0 (by decide)).trans u0
      exact wpOp_value (v := .slice xa n ca) (w' := w) ho e4 (by simp [execOp, e3, ev, evc, U0]) (by rw [e2]; exact go rfl (by decide) rfl)
    · obtain ⟨o', e1, e2, e3, e4, e5⟩ := o2
      obtain rfl := Option.some.inj (ho.symm.trans e1)
      have dp := dep_of' e5 hdep
      have U4 : a.tmps.getD 4 undef = .int .i64 (k : Nat) := (kp 4 (by decide)).trans u4
      exact wpOp_value (v := .int .i64 (k : Nat)) (w' := w) ho e4 (by simp [execOp, e3, ev, evc, U4]) (by rw [e2]; exact go rfl (by decide) rfl)
    · obtain ⟨o', e1, e2, e3, e4, e5⟩ := o3
      obtain rfl := Option.some.inj (ho.symm.trans e1)
      have dp := dep_of' e5 hdep
      have V1 : a.tmps.getD 12 undef = .slice xa n ca := hI.val 1 12 (by decide) rfl (dp 1 (by decide))
      have V2 : a.tmps.getD 13 undef = .int .i64 (k : Nat) := hI.val 2 13 (by decide) rfl (dp 2 (by decide))
      exact wpOp_value (v := .pointer (some y)) (w' := w) ho e4 (by simp [execOp, e3, ev, evc, V1, V2, x3 w]) (by rw [e2]; exact go rfl (by decide) rfl)
    · obtain ⟨o', e1, e2, e3, e4, e5⟩ := o4
      obtain rfl := Option.some.inj (ho.symm.trans e1)
      have dp := dep_of' e5 hdep
      have V3 : a.tmps.getD 14 undef = .pointer (some y) := hI.val 3 14 (by decide) rfl (dp 3 (by decide))
      exact wpOp_value (v := .pointer (some y)) (w' := w) ho e4 (by simp [execOp, e3, ev, evc, V3, x4 w]) (by rw [e2]; exact go rfl (by decide) rfl)
    · obtain ⟨o', e1, e2, e3, e4, e5⟩ := o5
      obtain rfl := Option.some.inj (ho.symm.trans e1)
      have dp := dep_of' e5 hdep
      have V4 : a.tmps.getD 15 undef = .pointer (some y) := hI.val 4 15 (by decide) rfl (dp 4 (by decide))
      have n18 : l 18 = false := by
        cases e : l 18 with
        | false => rfl
        | true =>
          exfalso
          have y0 := hcl.dep' o18 e 17 (by decide)
          have y1 := hcl.dep' o17 y0 16 (by decide)
          have y2 := hcl.dep' o16 y1 5 (by decide)
          rw [hl] at y2
          cases y2
      exact wpOp_value (v := .slice ta vn tc) (w' := w) ho e4 (by simp [execOp, e3, ev, evc, V4, x5 w (hSw n18)]) (by rw [e2]; exact go rfl (by decide) rfl)
    · obtain ⟨o', e1, e2, e3, e4, e5⟩ := o6
      obtain rfl := Option.some.inj (ho.symm.trans e1)
      have dp := dep_of' e5 hdep
      have U0 : a.tmps.getD 0 undef = .slice xa n ca := (kp 0 (by decide)).trans u0
      exact wpOp_value (v := .slice xa n ca) (w' := w) ho e4 (by simp [execOp, e3, ev, evc, U0]) (by rw [e2]; exact go rfl (by decide) rfl)
    · obtain ⟨o', e1, e2, e3, e4, e5⟩ := o7
      obtain rfl := Option.some.inj (ho.symm.trans e1)
      have dp := dep_of' e5 hdep
      have U4 : a.tmps.getD 4 undef = .int .i64 (k : Nat) := (kp 4 (by decide)).trans u4
      exact wpOp_value (v := .int .i64 (k : Nat)) (w' := w) ho e4 (by simp [execOp, e3, ev, evc, U4]) (by rw [e2]; exact go rfl (by decide) rfl)
    · obtain ⟨o', e1, e2, e3, e4, e5⟩ := o8
      obtain rfl := Option.some.inj (ho.symm.trans e1)
      have dp := dep_of' e5 hdep
      have V6 : a.tmps.getD 17 undef = .slice xa n ca := hI.val 6 17 (by decide) rfl (dp 6 (by decide))
      have V7 : a.tmps.getD 18 undef = .int .i64 (k : Nat) := hI.val 7 18 (by decide) rfl (dp 7 (by decide))
      exact wpOp_value (v := .pointer (some y)) (w' := w) ho e4 (by simp [execOp, e3, ev, evc, V6, V7, x8 w]) (by rw [e2]; exact go rfl (by decide) rfl)
    · obtain ⟨o', e1, e2, e3, e4, e5⟩ := o9
      obtain rfl := Option.some.inj (ho.symm.trans e1)
      have dp := dep_of' e5 hdep
      have V8 : a.tmps.getD 19 undef = .pointer (some y) := hI.val 8 19 (by decide) rfl (dp 8 (by decide))
      exact wpOp_value (v := .pointer (some ⟨y.block, y.off + 1, none⟩)) (w' := w) ho e4 (by simp [execOp, e3, ev, evc, V8, x9 w]) (by rw [e2]; exact go rfl (by decide) rfl)
    · obtain ⟨o', e1, e2, e3, e4, e5⟩ := o10
      obtain rfl := Option.some.inj (ho.symm.trans e1)
      have dp := dep_of' e5 hdep
      have V9 : a.tmps.getD 20 undef = .pointer (some ⟨y.block, y.off + 1, none⟩) := hI.val 9 20 (by decide) rfl (dp 9 (by decide))
      have n18 : l 18 = false := by
        cases e : l 18 with
        | false => rfl
        | true =>
          exfalso
          have y0 := hcl.dep' o18 e 17 (by decide)
          have y1 := hcl.dep' o17 y0 16 (by decide)
          have y2 := hcl.dep' o16 y1 10 (by decide)
          rw [hl] at y2
          cases y2
      exact wpOp_value (v := .int .i64 s) (w' := w) ho e4 (by simp [execOp, e3, ev, evc, V9, x10 w (hSw n18)]) (by rw [e2]; exact go rfl (by decide) rfl)
    · obtain ⟨o', e1, e2, e3, e4, e5⟩ := o11
      obtain rfl := Option.some.inj (ho.symm.trans e1)
      have dp := dep_of' e5 hdep
      have U0 : a.tmps.getD 0 undef = .slice xa n ca := (kp 0 (by decide)).trans u0
      exact wpOp_value (v := .slice xa n ca) (w' := w) ho e4 (by simp [execOp, e3, ev, evc, U0]) (by rw [e2]; exact go rfl (by decide) rfl)
    · obtain ⟨o', e1, e2, e3, e4, e5⟩ := o12
      obtain rfl := Option.some.inj (ho.symm.trans e1)
      have dp := dep_of' e5 hdep
      have U4 : a.tmps.getD 4 undef = .int .i64 (k : Nat) := (kp 4 (by decide)).trans u4
      exact wpOp_value (v := .int .i64 (k : Nat)) (w' := w) ho e4 (by simp [execOp, e3, ev, evc, U4]) (by rw [e2]; exact go rfl (by decide) rfl)
    · obtain ⟨o', e1, e2, e3, e4, e5⟩ := o13
      obtain rfl := Option.some.inj (ho.symm.trans e1)
      have dp := dep_of' e5 hdep
      have V11 : a.tmps.getD 22 undef = .slice xa n ca := hI.val 11 22 (by decide) rfl (dp 11 (by decide))
      have V12 : a.tmps.getD 23 undef = .int .i64 (k : Nat) := hI.val 12 23 (by decide) rfl (dp 12 (by decide))
      exact wpOp_value (v := .pointer (some y)) (w' := w) ho e4 (by simp [execOp, e3, ev, evc, V11, V12, x13 w]) (by rw [e2]; exact go rfl (by decide) rfl)
    · obtain ⟨o', e1, e2, e3, e4, e5⟩ := o14
      obtain rfl := Option.some.inj (ho.symm.trans e1)
      have dp := dep_of' e5 hdep
      have V13 : a.tmps.getD 24 undef = .pointer (some y) := hI.val 13 24 (by decide) rfl (dp 13 (by decide))
      exact wpOp_value (v := .pointer (some ⟨y.block, y.off + 2, none⟩)) (w' := w) ho e4 (by simp [execOp, e3, ev, evc, V13, x14 w]) (by rw [e2]; exact go rfl (by decide) rfl)
    · obtain ⟨o', e1, e2, e3, e4, e5⟩ := o15
      obtain rfl := Option.some.inj (ho.symm.trans e1)
      have dp := dep_of' e5 hdep
      have V14 : a.tmps.getD 25 undef = .pointer (some ⟨y.block, y.off + 2, none⟩) := hI.val 14 25 (by decide) rfl (dp 14 (by decide))
      have n18 : l 18 = false := by
        cases e : l 18 with
        | false => rfl
        | true =>
          exfalso
          have y0 := hcl.dep' o18 e 17 (by decide)
          have y1 := hcl.dep' o17 y0 16 (by decide)
          have y2 := hcl.dep' o16 y1 15 (by decide)
          rw [hl] at y2
          cases y2
      exact wpOp_value (v := .bool f) (w' := w) ho e4 (by simp [execOp, e3, ev, evc, V14, x15 w (hSw n18)]) (by rw [e2]; exact go rfl (by decide) rfl)
    · obtain ⟨o', e1, e2, e3, e4, e5⟩ := o16
      obtain rfl := Option.some.inj (ho.symm.trans e1)
      have dp := dep_of' e5 hdep
      have V5 : a.tmps.getD 16 undef = .slice ta vn tc := hI.val 5 16 (by decide) rfl (dp 5 (by decide))
      have V10 : a.tmps.getD 21 undef = .int .i64 s := hI.val 10 21 (by decide) rfl (dp 10 (by decide))
      have V15 : a.tmps.getD 26 undef = .bool f := hI.val 15 26 (by decide) rfl (dp 15 (by decide))
      exact wpOp_value (v := .agg #[.slice ta vn tc, .int .i64 s, .bool f]) (w' := w) ho e4 (by simp [execOp, e3, ev, evc, V5, V10, V15, x16 w]) (by rw [e2]; exact go rfl (by decide) rfl)
    · obtain ⟨o', e1, e2, e3, e4, e5⟩ := o17
      obtain rfl := Option.some.inj (ho.symm.trans e1)
      have dp := dep_of' e5 hdep
      have V16 : a.tmps.getD 27 undef = .agg #[.slice ta vn tc, .int .i64 s, .bool f] := hI.val 16 27 (by decide) rfl (dp 16 (by decide))
      have n18 : l 18 = false := by
        cases e : l 18 with
        | false => rfl
        | true =>
          exfalso
          have y0 := hcl.dep' o18 e 17 (by decide)
          rw [hl] at y0
          cases y0
      obtain rfl : w = w0.drew := hI.world.1.1 hl
      refine wpOp_value (v := .slice (some ⟨g1, 0, none⟩) 1 1) (w' := W1) ho e4 (by simp [execOp, e3, ev, evc, V16, x17]) ?_
      rw [e2]
      refine hI.put hi rfl (Nat.lt_of_lt_of_le (by decide) hs) (inj 28 rfl) ⟨?_, k2.put rfl (by rw [hI.size]; exact Nat.lt_of_lt_of_le (by decide) hs) hi⟩ rfl (fun j u _ _ _ hf => hf)
      show frR _ _ _ _ _
      unfold frR
      dsimp only
      rw [sam, oth 18 (by decide)]
      exact ⟨(fun h => by cases h), (fun _ _ => rfl), (fun h => by rw [n18] at h; cases h)⟩
    · obtain ⟨o', e1, e2, e3, e4, e5⟩ := o18
      obtain rfl := Option.some.inj (ho.symm.trans e1)
      have dp := dep_of' e5 hdep
      have V0 : a.tmps.getD 11 undef = .slice sa sn sc := hI.val 0 11 (by decide) rfl (dp 0 (by decide))
      have V17 : a.tmps.getD 28 undef = .slice (some ⟨g1, 0, none⟩) 1 1 := hI.val 17 28 (by decide) rfl (dp 17 (by decide))
      have z17_0 := dp 17 (by decide)
      have d17 : l 17 = true := z17_0
      obtain rfl : w = W1 := hI.world.1.2.1 d17 hl
      refine wpOp_value (v := .slice da dn dc) (w' := W2) ho e4 (by simp only [execOp, e3, resolve, invoke, builtin, Sem.run_bind, Sem.run_pure, Result.andThen_ok, List.map_toArray, List.map_cons, List.map_nil, ev, V0, V17, hty18 _ ho, x18]) ?_
      rw [e2]
      refine hI.put hi rfl (Nat.lt_of_lt_of_le (by decide) hs) (inj 29 rfl) ⟨?_, k2.put rfl (by rw [hI.size]; exact Nat.lt_of_lt_of_le (by decide) hs) hi⟩ rfl (fun j u _ _ _ hf => hf)
      show frR _ _ _ _ _
      unfold frR
      dsimp only
      rw [sam, oth 17 (by decide)]
      exact ⟨(fun h => by rw [d17] at h; cases h), (fun _ h => by cases h), (fun _ => rfl)⟩
    · obtain ⟨o', e1, e2, e3, e4, e5⟩ := o19
      obtain rfl := Option.some.inj (ho.symm.trans e1)
      have dp := dep_of' e5 hdep
      have V0 : a.tmps.getD 11 undef = .slice sa sn sc := hI.val 0 11 (by decide) rfl (dp 0 (by decide))
      have V18 : a.tmps.getD 29 undef = .slice da dn dc := hI.val 18 29 (by decide) rfl (dp 18 (by decide))
      exact wpOp_value (v := .slice da dn dc) (w' := w) ho e4 (by simp [execOp, e3, ev, evc, V0, V18]) (by rw [e2]; exact go rfl (by decide) rfl)
  · intro l a w hall hI
    have all : ∀ j, j < 20 → l j = true := fun j hj => hall j (by rw [hsz]; exact hj)
    obtain rfl := hI.world.1.2.2 (all 18 (by decide))
    exact fin a hI.size hI.defers hI.kept (fun i d hi hD => hI.val i d hi hD (all i hi))

end Go.Proofs.Yteeljnibglnflaa
