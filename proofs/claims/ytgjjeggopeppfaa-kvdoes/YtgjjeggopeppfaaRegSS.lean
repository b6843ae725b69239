/- Texts put together: RegSm, SameSq. -/
import Derived.Test.YtgjjeggopeppfaaRows
import Derived.Test.YtgjjeggopeppfaaPages
import Derived.Test.YtgjjeggopeppfaaBasis
import Derived.Test.YtgjjeggopeppfaaLeast
import Derived.Test.YtgjjeggopeppfaaInv
import Derived.Test.YtgjjeggopeppfaaRegPg
import Derived.WalkKit
import Derived.ProofKit
import Derived.OpenShut
import Derived.Below
import Derived.WalkLawsBesides
import Derived.Deep.QuietTactic
import Derived.BigQuiet
import Derived.Orders
import Derived.Test.YtgjjeggopeppfaaLays
import Derived.Test.YtgjjeggopeppfaaTurns
import Derived.Test.YtgjjeggopeppfaaGoods
import Derived.Test.YtgjjeggopeppfaaRefA
import Derived.Test.YtgjjeggopeppfaaRefTk
import Derived.Test.YtgjjeggopeppfaaRefLays
import Derived.Test.YtgjjeggopeppfaaRefTurns
import Derived.Test.YtgjjeggopeppfaaLies
import Derived.Test.YtgjjeggopeppfaaSeqP
import Derived.Test.YtgjjeggopeppfaaSeqRN
import Derived.Test.YtgjjeggopeppfaaReadsB
import Derived.Test.YtgjjeggopeppfaaForks
import Derived.Test.YtgjjeggopeppfaaRooms
import Derived.Test.YtgjjeggopeppfaaDocAt
import Derived.Test.YtgjjeggopeppfaaDocRd
import Derived.Test.YtgjjeggopeppfaaDocKeep
import Derived.Test.YtgjjeggopeppfaaRegAB
import Derived.Test.YtgjjeggopeppfaaDocAp0
import Derived.Test.YtgjjeggopeppfaaSmalls
import Derived.Test.YtgjjeggopeppfaaRows13
import Derived.Test.YtgjjeggopeppfaaPagesOf
import Derived.Deep.RegionHeld3
import Derived.Deep.RegionWith
namespace Go.Proofs.Ytgjjeggopeppfaa

/- The region in which the law holds a sequence against the document's. -/
section
open Go.ChangeShapes Go.WideShapes Go.ChangeAt Go.RowKit
set_option linter.unusedVariables false
set_option linter.unusedSimpArgs false

def smD (i : Nat) : Option Nat := match i with | 0 => some 23 | 1 => some 24 | 2 => some 25 | 3 => some 26 | 4 => some 27 | 5 => some 28 | 6 => some 29 | 7 => some 30 | 8 => some 31 | 9 => some 32 | 10 => some 33 | 11 => some 34 | 12 => some 35 | 13 => some 36 | 14 => some 37 | 15 => some 38 | 16 => some 39 | 17 => some 40 | 18 => some 41 | 19 => some 42 | 20 => some 43 | 21 => some 44 | 22 => some 45 | 23 => some 46 | 24 => some 47 | 25 => some 48 | 26 => some 49 | 27 => some 50 | 28 => some 51 | 29 => some 52 | 30 => some 53 | 31 => some 54 | 32 => some 55 | 33 => some 56 | 34 => some 57 | 35 => some 58 | 36 => some 59 | 37 => some 60 | 38 => some 61 | 39 => some 62 | 40 => some 63 | 41 => some 64 | 42 => some 6 | _ => none
theorem smD_inj : ∀ i, i < 43 → ∀ j, j < 43 → smD i = smD j → smD i ≠ none → i = j := by decide
theorem smD_lt : ∀ i, i < 43 → ∀ d, smD i = some d → d < 65 := by
  intro i hi d h
  have : ∀ i, i < 43 → (smD i).all (fun d => decide (d < 65)) = true := by decide
  have := this i hi
  rw [h] at this
  simpa using this
def smF (x x2 L c rl rc rm rd w0s : Nat) (n st nd E : Int) (sa ra rb : Option Addr) (P : List Int) (i : Nat) (q : Value) (w : World) : Prop := match i with
  | 0 => q = .pointer (some ⟨x, 0, none⟩)
  | 1 => q = .int .i64 n
  | 2 => q = .pointer (some ⟨x2, 0, none⟩)
  | 3 => q = .pointer (some ⟨x2, 0, none⟩)
  | 4 => q = .pointer (some ⟨x2, 5, none⟩)
  | 5 => q = .int .i64 n
  | 6 => q = .bool true
  | 7 => q = .bool true
  | 8 => q = .pointer (some ⟨x, 0, none⟩)
  | 9 => q = .int .i64 st
  | 10 => q = .pointer (some ⟨x2, 0, none⟩)
  | 11 => q = .pointer (some ⟨x2, 0, none⟩)
  | 12 => q = .pointer (some ⟨x2, 4, none⟩)
  | 13 => q = .int .i64 st
  | 14 => q = .bool true
  | 15 => q = .bool true
  | 16 => q = .bool true
  | 17 => q = .pointer (some ⟨x, 0, none⟩)
  | 18 => ∃ pa pc, q = .slice pa L pc ∧ RowI w0s w pa L pc P
  | 19 => q = .pointer (some ⟨x2, 0, none⟩)
  | 20 => q = .pointer (some ⟨x2, 0, none⟩)
  | 21 => q = .pointer (some ⟨x2, 3, none⟩)
  | 22 => q = .slice sa L c
  | 23 => q = .bool true
  | 24 => q = .bool true
  | 25 => q = .bool true
  | 26 => q = .pointer (some ⟨x, 0, none⟩)
  | 27 => q = .int .i64 nd
  | 28 => q = .pointer (some ⟨x2, 0, none⟩)
  | 29 => q = .int .i64 nd
  | 30 => q = .bool true
  | 31 => q = .bool true
  | 32 => q = .bool true
  | 33 => q = .slice ra rl rc
  | 34 => q = .slice rb rm rd
  | 35 => q = .bool true
  | 36 => q = .bool true
  | 37 => q = .bool true
  | 38 => q = .int .i64 E
  | 39 => q = .int .i64 E
  | 40 => q = .bool true
  | 41 => q = .bool true
  | 42 => q = .bool true
  | _ => True
theorem smF_below {x x2 L c rl rc rm rd w0s : Nat} {n st nd E : Int} {sa ra rb : Option Addr} {P : List Int} {i : Nat} {q : Value} {w w' : World} (h : smF x x2 L c rl rc rm rd w0s n st nd E sa ra rb P i q w) (hb : Below w.heap.size w w') : smF x x2 L c rl rc rm rd w0s n st nd E sa ra rb P i q w' := by
  unfold smF at h ⊢
  split
  · exact h
  · exact h
  · exact h
  · exact h
  · exact h
  · exact h
  · exact h
  · exact h
  · exact h
  · exact h
  · exact h
  · exact h
  · exact h
  · exact h
  · exact h
  · exact h
  · exact h
  · exact h
  · obtain ⟨pa, pc, h1, h2⟩ := h; exact ⟨pa, pc, h1, h2.below hb⟩
  · exact h
  · exact h
  · exact h
  · exact h
  · exact h
  · exact h
  · exact h
  · exact h
  · exact h
  · exact h
  · exact h
  · exact h
  · exact h
  · exact h
  · exact h
  · exact h
  · exact h
  · exact h
  · exact h
  · exact h
  · exact h
  · exact h
  · exact h
  · exact h
  · trivial

set_option maxHeartbeats 8000000 in
theorem sm_region {id : Nat} {ops : Array Oper} {Q : Exit → Act → World → Prop} {a0 : Act} {w0 : World} (x x2 L c rl rc rm rd w0s : Nat) (n st nd E : Int) (sa ra rb : Option Addr) (P : List Int) (S : World → Prop) (hlow : lowB ops = true) (hsz : ops.size = 43)
    (o0 : OpIn ops 0 (some 23) (.move (.tmp 0)) none []) (o1 : OpIn ops 1 (some 24) (.call { callee := .value (.func 23), args := #[.tmp 23], argTypes := #[31] }) none [0]) (o2 : OpIn ops 2 (some 25) (.move (.tmp 1)) none []) (o3 : OpIn ops 3 (some 26) (.nilCheck (.tmp 25)) none [2]) (o4 : OpIn ops 4 (some 27) (.fieldAddr 51 (.tmp 26) 5) none [3]) (o5 : OpIn ops 5 (some 28) (.load 3 (.tmp 27)) none [4]) (o6 : OpIn ops 6 (some 29) (.binOp .eql 3 (.tmp 24) (.tmp 28) 3) none [1, 5]) (o7 : OpIn ops 7 (some 30) (.move (.tmp 29)) none [6]) (o8 : OpIn ops 8 (some 31) (.move (.tmp 0)) (some (7, true)) [7]) (o9 : OpIn ops 9 (some 32) (.call { callee := .value (.func 24), args := #[.tmp 31], argTypes := #[31] }) (some (7, true)) [7, 8]) (o10 : OpIn ops 10 (some 33) (.move (.tmp 1)) (some (7, true)) [7]) (o11 : OpIn ops 11 (some 34) (.nilCheck (.tmp 33)) (some (7, true)) [7, 10]) (o12 : OpIn ops 12 (some 35) (.fieldAddr 51 (.tmp 34) 4) (some (7, true)) [7, 11]) (o13 : OpIn ops 13 (some 36) (.load 3 (.tmp 35)) (some (7, true)) [7, 12]) (o14 : OpIn ops 14 (some 37) (.binOp .eql 3 (.tmp 32) (.tmp 36) 3) (some (7, true)) [7, 9, 13]) (o15 : OpIn ops 15 (some 38) (.pick (.tmp 30) (.tmp 37) (.const (.bool false))) none [7, 14]) (o16 : OpIn ops 16 (some 39) (.move (.tmp 38)) none [15]) (o17 : OpIn ops 17 (some 40) (.move (.tmp 0)) (some (16, true)) [16]) (o18 : OpIn ops 18 (some 41) (.call { callee := .value (.func 30), args := #[.tmp 40], argTypes := #[31] }) (some (16, true)) [16, 17]) (o19 : OpIn ops 19 (some 42) (.move (.tmp 1)) (some (16, true)) [16]) (o20 : OpIn ops 20 (some 43) (.nilCheck (.tmp 42)) (some (16, true)) [16, 19]) (o21 : OpIn ops 21 (some 44) (.fieldAddr 51 (.tmp 43) 3) (some (16, true)) [16, 20]) (o22 : OpIn ops 22 (some 45) (.load 49 (.tmp 44)) (some (16, true)) [16, 21]) (o23 : OpIn ops 23 (some 46) (.call { callee := .value (.func 47), args := #[.tmp 41, .tmp 45], argTypes := #[49, 49] }) (some (16, true)) [16, 18, 22]) (o24 : OpIn ops 24 (some 47) (.pick (.tmp 39) (.tmp 46) (.const (.bool false))) none [16, 23]) (o25 : OpIn ops 25 (some 48) (.move (.tmp 47)) none [24]) (o26 : OpIn ops 26 (some 49) (.move (.tmp 0)) (some (25, true)) [25]) (o27 : OpIn ops 27 (some 50) (.call { callee := .value (.func 29), args := #[.tmp 49], argTypes := #[31] }) (some (25, true)) [25, 26]) (o28 : OpIn ops 28 (some 51) (.move (.tmp 1)) (some (25, true)) [25]) (o29 : OpIn ops 29 (some 52) (.call { callee := .value (.func 34), args := #[.tmp 51], argTypes := #[34] }) (some (25, true)) [25, 28]) (o30 : OpIn ops 30 (some 53) (.binOp .eql 3 (.tmp 50) (.tmp 52) 3) (some (25, true)) [25, 27, 29]) (o31 : OpIn ops 31 (some 54) (.pick (.tmp 48) (.tmp 53) (.const (.bool false))) none [25, 30]) (o32 : OpIn ops 32 (some 55) (.move (.tmp 54)) none [31]) (o33 : OpIn ops 33 (some 56) (.move (.tmp 7)) (some (32, true)) [32]) (o34 : OpIn ops 34 (some 57) (.move (.tmp 9)) (some (32, true)) [32]) (o35 : OpIn ops 35 (some 58) (.call { callee := .value (.func 26), args := #[.tmp 56, .tmp 57], argTypes := #[39, 39] }) (some (32, true)) [32, 33, 34]) (o36 : OpIn ops 36 (some 59) (.pick (.tmp 55) (.tmp 58) (.const (.bool false))) none [32, 35]) (o37 : OpIn ops 37 (some 60) (.move (.tmp 59)) none [36]) (o38 : OpIn ops 38 (some 61) (.move (.tmp 8)) (some (37, true)) [37]) (o39 : OpIn ops 39 (some 62) (.move (.tmp 10)) (some (37, true)) [37]) (o40 : OpIn ops 40 (some 63) (.binOp .eql 25 (.tmp 61) (.tmp 62) 25) (some (37, true)) [37, 38, 39]) (o41 : OpIn ops 41 (some 64) (.pick (.tmp 60) (.tmp 63) (.const (.bool false))) none [37, 40]) (o42 : OpIn ops 42 (some 6) (.assign (.tmp 64)) none [41])
    (hS : S w0.drew)
    (x1 : ∀ w, S w → Calls Try.prog 23 #[.pointer (some ⟨x, 0, none⟩)] w fun e w' => e = .returned (.int .i64 n) ∧ Below w.heap.size w w' ∧ S w')
    (x4 : ∀ w, (Instr.fieldAt 51 (.pointer (some ⟨x2, 0, none⟩)) 5).run Try.prog w = .ok (.pointer (some ⟨x2, 5, none⟩)) w)
    (x5 : ∀ w, S w → (Instr.loadAt 3 (.pointer (some ⟨x2, 5, none⟩))).run Try.prog w = .ok (.int .i64 n) w)
    (x6 : ∀ w, (binOp .eql 3 (.int .i64 n) (.int .i64 n)).run Try.prog w = .ok (.bool true) w)
    (x9 : ∀ w, S w → Calls Try.prog 24 #[.pointer (some ⟨x, 0, none⟩)] w fun e w' => e = .returned (.int .i64 st) ∧ Below w.heap.size w w' ∧ S w')
    (x12 : ∀ w, (Instr.fieldAt 51 (.pointer (some ⟨x2, 0, none⟩)) 4).run Try.prog w = .ok (.pointer (some ⟨x2, 4, none⟩)) w)
    (x13 : ∀ w, S w → (Instr.loadAt 3 (.pointer (some ⟨x2, 4, none⟩))).run Try.prog w = .ok (.int .i64 st) w)
    (x14 : ∀ w, (binOp .eql 3 (.int .i64 st) (.int .i64 st)).run Try.prog w = .ok (.bool true) w)
    (x18 : ∀ w, S w → Calls Try.prog 30 #[.pointer (some ⟨x, 0, none⟩)] w fun e w' => ∃ pa pc, e = .returned (.slice pa L pc) ∧ RowI w0s w' pa L pc P ∧ Below w.heap.size w w' ∧ S w')
    (x21 : ∀ w, (Instr.fieldAt 51 (.pointer (some ⟨x2, 0, none⟩)) 3).run Try.prog w = .ok (.pointer (some ⟨x2, 3, none⟩)) w)
    (x22 : ∀ w, S w → (Instr.loadAt 49 (.pointer (some ⟨x2, 3, none⟩))).run Try.prog w = .ok (.slice sa L c) w)
    (x23 : ∀ w, S w → ∀ pa pc, RowI w0s w pa L pc P → Calls Try.prog 47 #[.slice pa L pc, .slice sa L c] w fun e w' => e = .returned (.bool true) ∧ Below w.heap.size w w' ∧ S w')
    (x27 : ∀ w, S w → Calls Try.prog 29 #[.pointer (some ⟨x, 0, none⟩)] w fun e w' => e = .returned (.int .i64 nd) ∧ Below w.heap.size w w' ∧ S w')
    (x29 : ∀ w, S w → Calls Try.prog 34 #[.pointer (some ⟨x2, 0, none⟩)] w fun e w' => e = .returned (.int .i64 nd) ∧ Below w.heap.size w w' ∧ S w')
    (x30 : ∀ w, (binOp .eql 3 (.int .i64 nd) (.int .i64 nd)).run Try.prog w = .ok (.bool true) w)
    (x35 : ∀ w, S w → Calls Try.prog 26 #[.slice ra rl rc, .slice rb rm rd] w fun e w' => e = .returned (.bool true) ∧ Below w.heap.size w w' ∧ S w')
    (x40 : ∀ w, (binOp .eql 25 (.int .i64 E) (.int .i64 E)).run Try.prog w = .ok (.bool true) w)
    (u0 : a0.tmps.getD 0 undef = .pointer (some ⟨x, 0, none⟩))
    (u1 : a0.tmps.getD 1 undef = .pointer (some ⟨x2, 0, none⟩))
    (u7 : a0.tmps.getD 7 undef = .slice ra rl rc)
    (u8 : a0.tmps.getD 8 undef = .int .i64 E)
    (u9 : a0.tmps.getD 9 undef = .slice rb rm rd)
    (u10 : a0.tmps.getD 10 undef = .int .i64 E)
    (hs : 65 ≤ a0.tmps.size)
    (fin : ∀ a w, a.tmps.size = a0.tmps.size → a.defers = a0.defers → (∀ s, (∀ i, i < 43 → smD i ≠ some s) → a.tmps.getD s undef = a0.tmps.getD s undef) → S w → (∀ i d, i < 43 → smD i = some d → smF x x2 L c rl rc rm rd w0s n st nd E sa ra rb P i (a.tmps.getD d undef) w) → Q .normal a w) : (Code.region id ops true).wp Try.prog Q a0 w0 := by
  have r23 : ∀ args w, (callFunc 23 args).run Try.prog w = .ok (.enter 23 args) w := enters_of Try.func23 (by kernel_rfl) rfl
  have r24 : ∀ args w, (callFunc 24 args).run Try.prog w = .ok (.enter 24 args) w := enters_of Try.func24 (by kernel_rfl) rfl
  have r26 : ∀ args w, (callFunc 26 args).run Try.prog w = .ok (.enter 26 args) w := enters_of Try.func26 (by kernel_rfl) rfl
  have r29 : ∀ args w, (callFunc 29 args).run Try.prog w = .ok (.enter 29 args) w := enters_of Try.func29 (by kernel_rfl) rfl
  have r30 : ∀ args w, (callFunc 30 args).run Try.prog w = .ok (.enter 30 args) w := enters_of Try.func30 (by kernel_rfl) rfl
  have r34 : ∀ args w, (callFunc 34 args).run Try.prog w = .ok (.enter 34 args) w := enters_of Try.func34 (by kernel_rfl) rfl
  have r47 : ∀ args w, (callFunc 47 args).run Try.prog w = .ok (.enter 47 args) w := enters_of Try.func47 (by kernel_rfl) rfl
  refine wp_region_inv2 (by kernel_rfl) hlow (Inv 43 smD a0 (fun _ _ w => S w) (fun _ => smF x x2 L c rl rc rm rd w0s n st nd E sa ra rb P)) (Inv.start hS) ?_ ?_
  · intro l i o a w ho hl hcl hdep hI
    have hi : i < 43 := by rw [← hsz]; exact (Array.getElem?_eq_some_iff.1 ho).1
    have ev : ∀ (s : Nat), a.eval (.tmp s) = a.tmps.getD s undef := fun _ => rfl
    have evf : ∀ f, a.eval (.func f) = .func (.func f) #[] #[] := fun _ => rfl
    have evc : ∀ c : Value, a.eval (.const c) = c := fun _ => rfl
    have inj : ∀ d, smD i = some d → ∀ j d', j < 43 → smD j = some d' → j ≠ i → d' ≠ d := fun d hd j d' hj hd' hne e => hne (smD_inj j hj i hi (by rw [hd', hd, e]) (by rw [hd']; simp))
    have kp : ∀ s, (∀ i, i < 43 → smD i ≠ some s) → a.tmps.getD s undef = a0.tmps.getD s undef := hI.kept
    have hw : S w := hI.world
    have go : ∀ {d : Nat} {v : Value} {w' : World}, smD i = some d → Below w.heap.size w w' → S w' → smF x x2 L c rl rc rm rd w0s n st nd E sa ra rb P i v w' → Inv 43 smD a0 (fun _ _ w => S w) (fun _ => smF x x2 L c rl rc rm rd w0s n st nd E sa ra rb P) (fun j => l j || j == i) (a.put (some d) v) w' := by
      intro d v w' hD hb hS' hF
      exact hI.put hi hD (Nat.lt_of_lt_of_le (smD_lt i hi d hD) hs) (inj d hD) hS' hF (fun j u _ _ _ hf => smF_below hf hb)
    rcases (show i = 0 ∨ i = 1 ∨ i = 2 ∨ i = 3 ∨ i = 4 ∨ i = 5 ∨ i = 6 ∨ i = 7 ∨ i = 8 ∨ i = 9 ∨ i = 10 ∨ i = 11 ∨ i = 12 ∨ i = 13 ∨ i = 14 ∨ i = 15 ∨ i = 16 ∨ i = 17 ∨ i = 18 ∨ i = 19 ∨ i = 20 ∨ i = 21 ∨ i = 22 ∨ i = 23 ∨ i = 24 ∨ i = 25 ∨ i = 26 ∨ i = 27 ∨ i = 28 ∨ i = 29 ∨ i = 30 ∨ i = 31 ∨ i = 32 ∨ i = 33 ∨ i = 34 ∨ i = 35 ∨ i = 36 ∨ i = 37 ∨ i = 38 ∨ i = 39 ∨ i = 40 ∨ i = 41 ∨ i = 42 by omega) with rfl | rfl | rfl | rfl | rfl | rfl | rfl | rfl | rfl | rfl | rfl | rfl | rfl | rfl | rfl | rfl | rfl | rfl | rfl | rfl | rfl | rfl | rfl | rfl | rfl | rfl | rfl | rfl | rfl | rfl | rfl | rfl | rfl | rfl | rfl | rfl | rfl | rfl | rfl | rfl | rfl | rfl | rfl
    · obtain ⟨o', e1, e2, e3, e4, e5⟩ := o0
      obtain rfl := Option.some.inj (ho.symm.trans e1)
      have dp := dep_of' e5 hdep
      have U0 : a.tmps.getD 0 undef = .pointer (some ⟨x, 0, none⟩) := (kp 0 (by decide)).trans u0
      exact wpOp_value (v := .pointer (some ⟨x, 0, none⟩)) (w' := w) ho e4 (by simp [execOp, e3, ev, evc, U0]) (by rw [e2]; exact go rfl (Below.refl _ _) hw rfl)
    · obtain ⟨o', e1, e2, e3, e4, e5⟩ := o1
      obtain rfl := Option.some.inj (ho.symm.trans e1)
      have dp := dep_of' e5 hdep
      have V0 : a.tmps.getD 23 undef = .pointer (some ⟨x, 0, none⟩) := hI.val 0 23 (by decide) rfl (dp 0 (by decide))
      refine wpOp_call (f := 23) (args := #[.pointer (some ⟨x, 0, none⟩)]) ho e4 (by simp [execOp, e3, resolve, invoke, Deferred.ofValue, r23, ev, evf, evc, V0]) ((x1 w hw).mono ?_)
      rintro e W' ⟨rfl, hb5, hs5⟩
      refine ⟨_, rfl, ?_⟩
      rw [e2]
      exact go rfl hb5 hs5 rfl
    · obtain ⟨o', e1, e2, e3, e4, e5⟩ := o2
      obtain rfl := Option.some.inj (ho.symm.trans e1)
      have dp := dep_of' e5 hdep
      have U1 : a.tmps.getD 1 undef = .pointer (some ⟨x2, 0, none⟩) := (kp 1 (by decide)).trans u1
      exact wpOp_value (v := .pointer (some ⟨x2, 0, none⟩)) (w' := w) ho e4 (by simp [execOp, e3, ev, evc, U1]) (by rw [e2]; exact go rfl (Below.refl _ _) hw rfl)
    · obtain ⟨o', e1, e2, e3, e4, e5⟩ := o3
      obtain rfl := Option.some.inj (ho.symm.trans e1)
      have dp := dep_of' e5 hdep
      have V2 : a.tmps.getD 25 undef = .pointer (some ⟨x2, 0, none⟩) := hI.val 2 25 (by decide) rfl (dp 2 (by decide))
      exact wpOp_value (v := .pointer (some ⟨x2, 0, none⟩)) (w' := w) ho e4 (by simp [execOp, e3, ev, evc, V2]) (by rw [e2]; exact go rfl (Below.refl _ _) hw rfl)
    · obtain ⟨o', e1, e2, e3, e4, e5⟩ := o4
      obtain rfl := Option.some.inj (ho.symm.trans e1)
      have dp := dep_of' e5 hdep
      have V3 : a.tmps.getD 26 undef = .pointer (some ⟨x2, 0, none⟩) := hI.val 3 26 (by decide) rfl (dp 3 (by decide))
      exact wpOp_value (v := .pointer (some ⟨x2, 5, none⟩)) (w' := w) ho e4 (by simp [execOp, e3, ev, evc, V3, x4 w]) (by rw [e2]; exact go rfl (Below.refl _ _) hw rfl)
    · obtain ⟨o', e1, e2, e3, e4, e5⟩ := o5
      obtain rfl := Option.some.inj (ho.symm.trans e1)
      have dp := dep_of' e5 hdep
      have V4 : a.tmps.getD 27 undef = .pointer (some ⟨x2, 5, none⟩) := hI.val 4 27 (by decide) rfl (dp 4 (by decide))
      exact wpOp_value (v := .int .i64 n) (w' := w) ho e4 (by simp [execOp, e3, ev, evc, V4, x5 w hw]) (by rw [e2]; exact go rfl (Below.refl _ _) hw rfl)
    · obtain ⟨o', e1, e2, e3, e4, e5⟩ := o6
      obtain rfl := Option.some.inj (ho.symm.trans e1)
      have dp := dep_of' e5 hdep
      have V1 : a.tmps.getD 24 undef = .int .i64 n := hI.val 1 24 (by decide) rfl (dp 1 (by decide))
      have V5 : a.tmps.getD 28 undef = .int .i64 n := hI.val 5 28 (by decide) rfl (dp 5 (by decide))
      exact wpOp_value (v := .bool true) (w' := w) ho e4 (by simp [execOp, e3, ev, evc, V1, V5, x6 w, eqGuard]) (by rw [e2]; exact go rfl (Below.refl _ _) hw rfl)
    · obtain ⟨o', e1, e2, e3, e4, e5⟩ := o7
      obtain rfl := Option.some.inj (ho.symm.trans e1)
      have dp := dep_of' e5 hdep
      have V6 : a.tmps.getD 29 undef = .bool true := hI.val 6 29 (by decide) rfl (dp 6 (by decide))
      exact wpOp_value (v := .bool true) (w' := w) ho e4 (by simp [execOp, e3, ev, evc, V6]) (by rw [e2]; exact go rfl (Below.refl _ _) hw rfl)
    · obtain ⟨o', e1, e2, e3, e4, e5⟩ := o8
      obtain rfl := Option.some.inj (ho.symm.trans e1)
      have dp := dep_of' e5 hdep
      have V7 : a.tmps.getD 30 undef = .bool true := hI.val 7 30 (by decide) rfl (dp 7 (by decide))
      have U0 : a.tmps.getD 0 undef = .pointer (some ⟨x, 0, none⟩) := (kp 0 (by decide)).trans u0
      obtain ⟨og, g1, g2, -, -, -⟩ := o7
      exact wpOp_value_b (v := .pointer (some ⟨x, 0, none⟩)) (w' := w) ho e4 g1 g2 (by rw [hI.size]; exact Nat.lt_of_lt_of_le (by decide) hs) V7 (by simp [execOp, e3, ev, evc, V7, U0]) (by rw [e2]; exact go rfl (Below.refl _ _) hw rfl)
    · obtain ⟨o', e1, e2, e3, e4, e5⟩ := o9
      obtain rfl := Option.some.inj (ho.symm.trans e1)
      have dp := dep_of' e5 hdep
      have V7 : a.tmps.getD 30 undef = .bool true := hI.val 7 30 (by decide) rfl (dp 7 (by decide))
      have V8 : a.tmps.getD 31 undef = .pointer (some ⟨x, 0, none⟩) := hI.val 8 31 (by decide) rfl (dp 8 (by decide))
      obtain ⟨og, g1, g2, -, -, -⟩ := o7
      refine wpOp_call_b (f := 24) (args := #[.pointer (some ⟨x, 0, none⟩)]) ho e4 g1 g2 (by rw [hI.size]; exact Nat.lt_of_lt_of_le (by decide) hs) V7 (by simp [execOp, e3, resolve, invoke, Deferred.ofValue, r24, ev, evf, evc, V7, V8]) ((x9 w hw).mono ?_)
      rintro e W' ⟨rfl, hb5, hs5⟩
      refine ⟨_, rfl, ?_⟩
      rw [e2]
      exact go rfl hb5 hs5 rfl
    · obtain ⟨o', e1, e2, e3, e4, e5⟩ := o10
      obtain rfl := Option.some.inj (ho.symm.trans e1)
      have dp := dep_of' e5 hdep
      have V7 : a.tmps.getD 30 undef = .bool true := hI.val 7 30 (by decide) rfl (dp 7 (by decide))
      have U1 : a.tmps.getD 1 undef = .pointer (some ⟨x2, 0, none⟩) := (kp 1 (by decide)).trans u1
      obtain ⟨og, g1, g2, -, -, -⟩ := o7
      exact wpOp_value_b (v := .pointer (some ⟨x2, 0, none⟩)) (w' := w) ho e4 g1 g2 (by rw [hI.size]; exact Nat.lt_of_lt_of_le (by decide) hs) V7 (by simp [execOp, e3, ev, evc, V7, U1]) (by rw [e2]; exact go rfl (Below.refl _ _) hw rfl)
    · obtain ⟨o', e1, e2, e3, e4, e5⟩ := o11
      obtain rfl := Option.some.inj (ho.symm.trans e1)
      have dp := dep_of' e5 hdep
      have V7 : a.tmps.getD 30 undef = .bool true := hI.val 7 30 (by decide) rfl (dp 7 (by decide))
      have V10 : a.tmps.getD 33 undef = .pointer (some ⟨x2, 0, none⟩) := hI.val 10 33 (by decide) rfl (dp 10 (by decide))
      obtain ⟨og, g1, g2, -, -, -⟩ := o7
      exact wpOp_value_b (v := .pointer (some ⟨x2, 0, none⟩)) (w' := w) ho e4 g1 g2 (by rw [hI.size]; exact Nat.lt_of_lt_of_le (by decide) hs) V7 (by simp [execOp, e3, ev, evc, V7, V10]) (by rw [e2]; exact go rfl (Below.refl _ _) hw rfl)
    · obtain ⟨o', e1, e2, e3, e4, e5⟩ := o12
      obtain rfl := Option.some.inj (ho.symm.trans e1)
      have dp := dep_of' e5 hdep
      have V7 : a.tmps.getD 30 undef = .bool true := hI.val 7 30 (by decide) rfl (dp 7 (by decide))
      have V11 : a.tmps.getD 34 undef = .pointer (some ⟨x2, 0, none⟩) := hI.val 11 34 (by decide) rfl (dp 11 (by decide))
      obtain ⟨og, g1, g2, -, -, -⟩ := o7
      exact wpOp_value_b (v := .pointer (some ⟨x2, 4, none⟩)) (w' := w) ho e4 g1 g2 (by rw [hI.size]; exact Nat.lt_of_lt_of_le (by decide) hs) V7 (by simp [execOp, e3, ev, evc, V7, V11, x12 w]) (by rw [e2]; exact go rfl (Below.refl _ _) hw rfl)
    · obtain ⟨o', e1, e2, e3, e4, e5⟩ := o13
      obtain rfl := Option.some.inj (ho.symm.trans e1)
      have dp := dep_of' e5 hdep
      have V7 : a.tmps.getD 30 undef = .bool true := hI.val 7 30 (by decide) rfl (dp 7 (by decide))
      have V12 : a.tmps.getD 35 undef = .pointer (some ⟨x2, 4, none⟩) := hI.val 12 35 (by decide) rfl (dp 12 (by decide))
      obtain ⟨og, g1, g2, -, -, -⟩ := o7
      exact wpOp_value_b (v := .int .i64 st) (w' := w) ho e4 g1 g2 (by rw [hI.size]; exact Nat.lt_of_lt_of_le (by decide) hs) V7 (by simp [execOp, e3, ev, evc, V7, V12, x13 w hw]) (by rw [e2]; exact go rfl (Below.refl _ _) hw rfl)
    · obtain ⟨o', e1, e2, e3, e4, e5⟩ := o14
      obtain rfl := Option.some.inj (ho.symm.trans e1)
      have dp := dep_of' e5 hdep
      have V7 : a.tmps.getD 30 undef = .bool true := hI.val 7 30 (by decide) rfl (dp 7 (by decide))
      have V9 : a.tmps.getD 32 undef = .int .i64 st := hI.val 9 32 (by decide) rfl (dp 9 (by decide))
      have V13 : a.tmps.getD 36 undef = .int .i64 st := hI.val 13 36 (by decide) rfl (dp 13 (by decide))
      obtain ⟨og, g1, g2, -, -, -⟩ := o7
      exact wpOp_value_b (v := .bool true) (w' := w) ho e4 g1 g2 (by rw [hI.size]; exact Nat.lt_of_lt_of_le (by decide) hs) V7 (by simp [execOp, e3, ev, evc, V7, V9, V13, x14 w, eqGuard]) (by rw [e2]; exact go rfl (Below.refl _ _) hw rfl)
    · obtain ⟨o', e1, e2, e3, e4, e5⟩ := o15
      obtain rfl := Option.some.inj (ho.symm.trans e1)
      have dp := dep_of' e5 hdep
      have V7 : a.tmps.getD 30 undef = .bool true := hI.val 7 30 (by decide) rfl (dp 7 (by decide))
      have V14 : a.tmps.getD 37 undef = .bool true := hI.val 14 37 (by decide) rfl (dp 14 (by decide))
      exact wpOp_value (v := .bool true) (w' := w) ho e4 (by simp [execOp, e3, ev, evc, V7, V14, asBool]) (by rw [e2]; exact go rfl (Below.refl _ _) hw rfl)
    · obtain ⟨o', e1, e2, e3, e4, e5⟩ := o16
      obtain rfl := Option.some.inj (ho.symm.trans e1)
      have dp := dep_of' e5 hdep
      have V15 : a.tmps.getD 38 undef = .bool true := hI.val 15 38 (by decide) rfl (dp 15 (by decide))
      exact wpOp_value (v := .bool true) (w' := w) ho e4 (by simp [execOp, e3, ev, evc, V15]) (by rw [e2]; exact go rfl (Below.refl _ _) hw rfl)
    · obtain ⟨o', e1, e2, e3, e4, e5⟩ := o17
      obtain rfl := Option.some.inj (ho.symm.trans e1)
      have dp := dep_of' e5 hdep
      have V16 : a.tmps.getD 39 undef = .bool true := hI.val 16 39 (by decide) rfl (dp 16 (by decide))
      have U0 : a.tmps.getD 0 undef = .pointer (some ⟨x, 0, none⟩) := (kp 0 (by decide)).trans u0
      obtain ⟨og, g1, g2, -, -, -⟩ := o16
      exact wpOp_value_b (v := .pointer (some ⟨x, 0, none⟩)) (w' := w) ho e4 g1 g2 (by rw [hI.size]; exact Nat.lt_of_lt_of_le (by decide) hs) V16 (by simp [execOp, e3, ev, evc, V16, U0]) (by rw [e2]; exact go rfl (Below.refl _ _) hw rfl)
    · obtain ⟨o', e1, e2, e3, e4, e5⟩ := o18
      obtain rfl := Option.some.inj (ho.symm.trans e1)
      have dp := dep_of' e5 hdep
      have V16 : a.tmps.getD 39 undef = .bool true := hI.val 16 39 (by decide) rfl (dp 16 (by decide))
      have V17 : a.tmps.getD 40 undef = .pointer (some ⟨x, 0, none⟩) := hI.val 17 40 (by decide) rfl (dp 17 (by decide))
      obtain ⟨og, g1, g2, -, -, -⟩ := o16
      refine wpOp_call_b (f := 30) (args := #[.pointer (some ⟨x, 0, none⟩)]) ho e4 g1 g2 (by rw [hI.size]; exact Nat.lt_of_lt_of_le (by decide) hs) V16 (by simp [execOp, e3, resolve, invoke, Deferred.ofValue, r30, ev, evf, evc, V16, V17]) ((x18 w hw).mono ?_)
      rintro e W' ⟨pa, pc, rfl, hr6, hb6, hs6⟩
      refine ⟨_, rfl, ?_⟩
      rw [e2]
      exact go rfl hb6 hs6 ⟨pa, pc, rfl, hr6⟩
    · obtain ⟨o', e1, e2, e3, e4, e5⟩ := o19
      obtain rfl := Option.some.inj (ho.symm.trans e1)
      have dp := dep_of' e5 hdep
      have V16 : a.tmps.getD 39 undef = .bool true := hI.val 16 39 (by decide) rfl (dp 16 (by decide))
      have U1 : a.tmps.getD 1 undef = .pointer (some ⟨x2, 0, none⟩) := (kp 1 (by decide)).trans u1
      obtain ⟨og, g1, g2, -, -, -⟩ := o16
      exact wpOp_value_b (v := .pointer (some ⟨x2, 0, none⟩)) (w' := w) ho e4 g1 g2 (by rw [hI.size]; exact Nat.lt_of_lt_of_le (by decide) hs) V16 (by simp [execOp, e3, ev, evc, V16, U1]) (by rw [e2]; exact go rfl (Below.refl _ _) hw rfl)
    · obtain ⟨o', e1, e2, e3, e4, e5⟩ := o20
      obtain rfl := Option.some.inj (ho.symm.trans e1)
      have dp := dep_of' e5 hdep
      have V16 : a.tmps.getD 39 undef = .bool true := hI.val 16 39 (by decide) rfl (dp 16 (by decide))
      have V19 : a.tmps.getD 42 undef = .pointer (some ⟨x2, 0, none⟩) := hI.val 19 42 (by decide) rfl (dp 19 (by decide))
      obtain ⟨og, g1, g2, -, -, -⟩ := o16
      exact wpOp_value_b (v := .pointer (some ⟨x2, 0, none⟩)) (w' := w) ho e4 g1 g2 (by rw [hI.size]; exact Nat.lt_of_lt_of_le (by decide) hs) V16 (by simp [execOp, e3, ev, evc, V16, V19]) (by rw [e2]; exact go rfl (Below.refl _ _) hw rfl)
    · obtain ⟨o', e1, e2, e3, e4, e5⟩ := o21
      obtain rfl := Option.some.inj (ho.symm.trans e1)
      have dp := dep_of' e5 hdep
      have V16 : a.tmps.getD 39 undef = .bool true := hI.val 16 39 (by decide) rfl (dp 16 (by decide))
      have V20 : a.tmps.getD 43 undef = .pointer (some ⟨x2, 0, none⟩) := hI.val 20 43 (by decide) rfl (dp 20 (by decide))
      obtain ⟨og, g1, g2, -, -, -⟩ := o16
      exact wpOp_value_b (v := .pointer (some ⟨x2, 3, none⟩)) (w' := w) ho e4 g1 g2 (by rw [hI.size]; exact Nat.lt_of_lt_of_le (by decide) hs) V16 (by simp [execOp, e3, ev, evc, V16, V20, x21 w]) (by rw [e2]; exact go rfl (Below.refl _ _) hw rfl)
    · obtain ⟨o', e1, e2, e3, e4, e5⟩ := o22
      obtain rfl := Option.some.inj (ho.symm.trans e1)
      have dp := dep_of' e5 hdep
      have V16 : a.tmps.getD 39 undef = .bool true := hI.val 16 39 (by decide) rfl (dp 16 (by decide))
      have V21 : a.tmps.getD 44 undef = .pointer (some ⟨x2, 3, none⟩) := hI.val 21 44 (by decide) rfl (dp 21 (by decide))
      obtain ⟨og, g1, g2, -, -, -⟩ := o16
      exact wpOp_value_b (v := .slice sa L c) (w' := w) ho e4 g1 g2 (by rw [hI.size]; exact Nat.lt_of_lt_of_le (by decide) hs) V16 (by simp [execOp, e3, ev, evc, V16, V21, x22 w hw]) (by rw [e2]; exact go rfl (Below.refl _ _) hw rfl)
    · obtain ⟨o', e1, e2, e3, e4, e5⟩ := o23
      obtain rfl := Option.some.inj (ho.symm.trans e1)
      have dp := dep_of' e5 hdep
      have V16 : a.tmps.getD 39 undef = .bool true := hI.val 16 39 (by decide) rfl (dp 16 (by decide))
      obtain ⟨pa18, pc18, V18, f18⟩ : ∃ pa pc, a.tmps.getD 41 undef = .slice pa L pc ∧ RowI w0s w pa L pc P := hI.val 18 41 (by decide) rfl (dp 18 (by decide))
      have V22 : a.tmps.getD 45 undef = .slice sa L c := hI.val 22 45 (by decide) rfl (dp 22 (by decide))
      obtain ⟨og, g1, g2, -, -, -⟩ := o16
      refine wpOp_call_b (f := 47) (args := #[.slice pa18 L pc18, .slice sa L c]) ho e4 g1 g2 (by rw [hI.size]; exact Nat.lt_of_lt_of_le (by decide) hs) V16 (by simp [execOp, e3, resolve, invoke, Deferred.ofValue, r47, ev, evf, evc, V16, V18, V22]) ((x23 w hw pa18 pc18 f18).mono ?_)
      rintro e W' ⟨rfl, hb5, hs5⟩
      refine ⟨_, rfl, ?_⟩
      rw [e2]
      exact go rfl hb5 hs5 rfl
    · obtain ⟨o', e1, e2, e3, e4, e5⟩ := o24
      obtain rfl := Option.some.inj (ho.symm.trans e1)
      have dp := dep_of' e5 hdep
      have V16 : a.tmps.getD 39 undef = .bool true := hI.val 16 39 (by decide) rfl (dp 16 (by decide))
      have V23 : a.tmps.getD 46 undef = .bool true := hI.val 23 46 (by decide) rfl (dp 23 (by decide))
      exact wpOp_value (v := .bool true) (w' := w) ho e4 (by simp [execOp, e3, ev, evc, V16, V23, asBool]) (by rw [e2]; exact go rfl (Below.refl _ _) hw rfl)
    · obtain ⟨o', e1, e2, e3, e4, e5⟩ := o25
      obtain rfl := Option.some.inj (ho.symm.trans e1)
      have dp := dep_of' e5 hdep
      have V24 : a.tmps.getD 47 undef = .bool true := hI.val 24 47 (by decide) rfl (dp 24 (by decide))
      exact wpOp_value (v := .bool true) (w' := w) ho e4 (by simp [execOp, e3, ev, evc, V24]) (by rw [e2]; exact go rfl (Below.refl _ _) hw rfl)
    · obtain ⟨o', e1, e2, e3, e4, e5⟩ := o26
      obtain rfl := Option.some.inj (ho.symm.trans e1)
      have dp := dep_of' e5 hdep
      have V25 : a.tmps.getD 48 undef = .bool true := hI.val 25 48 (by decide) rfl (dp 25 (by decide))
      have U0 : a.tmps.getD 0 undef = .pointer (some ⟨x, 0, none⟩) := (kp 0 (by decide)).trans u0
      obtain ⟨og, g1, g2, -, -, -⟩ := o25
      exact wpOp_value_b (v := .pointer (some ⟨x, 0, none⟩)) (w' := w) ho e4 g1 g2 (by rw [hI.size]; exact Nat.lt_of_lt_of_le (by decide) hs) V25 (by simp [execOp, e3, ev, evc, V25, U0]) (by rw [e2]; exact go rfl (Below.refl _ _) hw rfl)
    · obtain ⟨o', e1, e2, e3, e4, e5⟩ := o27
      obtain rfl := Option.some.inj (ho.symm.trans e1)
      have dp := dep_of' e5 hdep
      have V25 : a.tmps.getD 48 undef = .bool true := hI.val 25 48 (by decide) rfl (dp 25 (by decide))
      have V26 : a.tmps.getD 49 undef = .pointer (some ⟨x, 0, none⟩) := hI.val 26 49 (by decide) rfl (dp 26 (by decide))
      obtain ⟨og, g1, g2, -, -, -⟩ := o25
      refine wpOp_call_b (f := 29) (args := #[.pointer (some ⟨x, 0, none⟩)]) ho e4 g1 g2 (by rw [hI.size]; exact Nat.lt_of_lt_of_le (by decide) hs) V25 (by simp [execOp, e3, resolve, invoke, Deferred.ofValue, r29, ev, evf, evc, V25, V26]) ((x27 w hw).mono ?_)
      rintro e W' ⟨rfl, hb5, hs5⟩
      refine ⟨_, rfl, ?_⟩
      rw [e2]
      exact go rfl hb5 hs5 rfl
    · obtain ⟨o', e1, e2, e3, e4, e5⟩ := o28
      obtain rfl := Option.some.inj (ho.symm.trans e1)
      have dp := dep_of' e5 hdep
      have V25 : a.tmps.getD 48 undef = .bool true := hI.val 25 48 (by decide) rfl (dp 25 (by decide))
      have U1 : a.tmps.getD 1 undef = .pointer (some ⟨x2, 0, none⟩) := (kp 1 (by decide)).trans u1
      obtain ⟨og, g1, g2, -, -, -⟩ := o25
      exact wpOp_value_b (v := .pointer (some ⟨x2, 0, none⟩)) (w' := w) ho e4 g1 g2 (by rw [hI.size]; exact Nat.lt_of_lt_of_le (by decide) hs) V25 (by simp [execOp, e3, ev, evc, V25, U1]) (by rw [e2]; exact go rfl (Below.refl _ _) hw rfl)
    · obtain ⟨o', e1, e2, e3, e4, e5⟩ := o29
      obtain rfl := Option.some.inj (ho.symm.trans e1)
      have dp := dep_of' e5 hdep
      have V25 : a.tmps.getD 48 undef = .bool true := hI.val 25 48 (by decide) rfl (dp 25 (by decide))
      have V28 : a.tmps.getD 51 undef = .pointer (some ⟨x2, 0, none⟩) := hI.val 28 51 (by decide) rfl (dp 28 (by decide))
      obtain ⟨og, g1, g2, -, -, -⟩ := o25
      refine wpOp_call_b (f := 34) (args := #[.pointer (some ⟨x2, 0, none⟩)]) ho e4 g1 g2 (by rw [hI.size]; exact Nat.lt_of_lt_of_le (by decide) hs) V25 (by simp [execOp, e3, resolve, invoke, Deferred.ofValue, r34, ev, evf, evc, V25, V28]) ((x29 w hw).mono ?_)
      rintro e W' ⟨rfl, hb5, hs5⟩
      refine ⟨_, rfl, ?_⟩
      rw [e2]
      exact go rfl hb5 hs5 rfl
    · obtain ⟨o', e1, e2, e3, e4, e5⟩ := o30
      obtain rfl := Option.some.inj (ho.symm.trans e1)
      have dp := dep_of' e5 hdep
      have V25 : a.tmps.getD 48 undef = .bool true := hI.val 25 48 (by decide) rfl (dp 25 (by decide))
      have V27 : a.tmps.getD 50 undef = .int .i64 nd := hI.val 27 50 (by decide) rfl (dp 27 (by decide))
      have V29 : a.tmps.getD 52 undef = .int .i64 nd := hI.val 29 52 (by decide) rfl (dp 29 (by decide))
      obtain ⟨og, g1, g2, -, -, -⟩ := o25
      exact wpOp_value_b (v := .bool true) (w' := w) ho e4 g1 g2 (by rw [hI.size]; exact Nat.lt_of_lt_of_le (by decide) hs) V25 (by simp [execOp, e3, ev, evc, V25, V27, V29, x30 w, eqGuard]) (by rw [e2]; exact go rfl (Below.refl _ _) hw rfl)
    · obtain ⟨o', e1, e2, e3, e4, e5⟩ := o31
      obtain rfl := Option.some.inj (ho.symm.trans e1)
      have dp := dep_of' e5 hdep
      have V25 : a.tmps.getD 48 undef = .bool true := hI.val 25 48 (by decide) rfl (dp 25 (by decide))
      have V30 : a.tmps.getD 53 undef = .bool true := hI.val 30 53 (by decide) rfl (dp 30 (by decide))
      exact wpOp_value (v := .bool true) (w' := w) ho e4 (by simp [execOp, e3, ev, evc, V25, V30, asBool]) (by rw [e2]; exact go rfl (Below.refl _ _) hw rfl)
    · obtain ⟨o', e1, e2, e3, e4, e5⟩ := o32
      obtain rfl := Option.some.inj (ho.symm.trans e1)
      have dp := dep_of' e5 hdep
      have V31 : a.tmps.getD 54 undef = .bool true := hI.val 31 54 (by decide) rfl (dp 31 (by decide))
      exact wpOp_value (v := .bool true) (w' := w) ho e4 (by simp [execOp, e3, ev, evc, V31]) (by rw [e2]; exact go rfl (Below.refl _ _) hw rfl)
    · obtain ⟨o', e1, e2, e3, e4, e5⟩ := o33
      obtain rfl := Option.some.inj (ho.symm.trans e1)
      have dp := dep_of' e5 hdep
      have V32 : a.tmps.getD 55 undef = .bool true := hI.val 32 55 (by decide) rfl (dp 32 (by decide))
      have U7 : a.tmps.getD 7 undef = .slice ra rl rc := (kp 7 (by decide)).trans u7
      obtain ⟨og, g1, g2, -, -, -⟩ := o32
      exact wpOp_value_b (v := .slice ra rl rc) (w' := w) ho e4 g1 g2 (by rw [hI.size]; exact Nat.lt_of_lt_of_le (by decide) hs) V32 (by simp [execOp, e3, ev, evc, V32, U7]) (by rw [e2]; exact go rfl (Below.refl _ _) hw rfl)
    · obtain ⟨o', e1, e2, e3, e4, e5⟩ := o34
      obtain rfl := Option.some.inj (ho.symm.trans e1)
      have dp := dep_of' e5 hdep
      have V32 : a.tmps.getD 55 undef = .bool true := hI.val 32 55 (by decide) rfl (dp 32 (by decide))
      have U9 : a.tmps.getD 9 undef = .slice rb rm rd := (kp 9 (by decide)).trans u9
      obtain ⟨og, g1, g2, -, -, -⟩ := o32
      exact wpOp_value_b (v := .slice rb rm rd) (w' := w) ho e4 g1 g2 (by rw [hI.size]; exact Nat.lt_of_lt_of_le (by decide) hs) V32 (by simp [execOp, e3, ev, evc, V32, U9]) (by rw [e2]; exact go rfl (Below.refl _ _) hw rfl)
    · obtain ⟨o', e1, e2, e3, e4, e5⟩ := o35
      obtain rfl := Option.some.inj (ho.symm.trans e1)
      have dp := dep_of' e5 hdep
      have V32 : a.tmps.getD 55 undef = .bool true := hI.val 32 55 (by decide) rfl (dp 32 (by decide))
      have V33 : a.tmps.getD 56 undef = .slice ra rl rc := hI.val 33 56 (by decide) rfl (dp 33 (by decide))
      have V34 : a.tmps.getD 57 undef = .slice rb rm rd := hI.val 34 57 (by decide) rfl (dp 34 (by decide))
      obtain ⟨og, g1, g2, -, -, -⟩ := o32
      refine wpOp_call_b (f := 26) (args := #[.slice ra rl rc, .slice rb rm rd]) ho e4 g1 g2 (by rw [hI.size]; exact Nat.lt_of_lt_of_le (by decide) hs) V32 (by simp [execOp, e3, resolve, invoke, Deferred.ofValue, r26, ev, evf, evc, V32, V33, V34]) ((x35 w hw).mono ?_)
      rintro e W' ⟨rfl, hb5, hs5⟩
      refine ⟨_, rfl, ?_⟩
      rw [e2]
      exact go rfl hb5 hs5 rfl
    · obtain ⟨o', e1, e2, e3, e4, e5⟩ := o36
      obtain rfl := Option.some.inj (ho.symm.trans e1)
      have dp := dep_of' e5 hdep
      have V32 : a.tmps.getD 55 undef = .bool true := hI.val 32 55 (by decide) rfl (dp 32 (by decide))
      have V35 : a.tmps.getD 58 undef = .bool true := hI.val 35 58 (by decide) rfl (dp 35 (by decide))
      exact wpOp_value (v := .bool true) (w' := w) ho e4 (by simp [execOp, e3, ev, evc, V32, V35, asBool]) (by rw [e2]; exact go rfl (Below.refl _ _) hw rfl)
    · obtain ⟨o', e1, e2, e3, e4, e5⟩ := o37
      obtain rfl := Option.some.inj (ho.symm.trans e1)
      have dp := dep_of' e5 hdep
      have V36 : a.tmps.getD 59 undef = .bool true := hI.val 36 59 (by decide) rfl (dp 36 (by decide))
      exact wpOp_value (v := .bool true) (w' := w) ho e4 (by simp [execOp, e3, ev, evc, V36]) (by rw [e2]; exact go rfl (Below.refl _ _) hw rfl)
    · obtain ⟨o', e1, e2, e3, e4, e5⟩ := o38
      obtain rfl := Option.some.inj (ho.symm.trans e1)
      have dp := dep_of' e5 hdep
      have V37 : a.tmps.getD 60 undef = .bool true := hI.val 37 60 (by decide) rfl (dp 37 (by decide))
      have U8 : a.tmps.getD 8 undef = .int .i64 E := (kp 8 (by decide)).trans u8
      obtain ⟨og, g1, g2, -, -, -⟩ := o37
      exact wpOp_value_b (v := .int .i64 E) (w' := w) ho e4 g1 g2 (by rw [hI.size]; exact Nat.lt_of_lt_of_le (by decide) hs) V37 (by simp [execOp, e3, ev, evc, V37, U8]) (by rw [e2]; exact go rfl (Below.refl _ _) hw rfl)
    · obtain ⟨o', e1, e2, e3, e4, e5⟩ := o39
      obtain rfl := Option.some.inj (ho.symm.trans e1)
      have dp := dep_of' e5 hdep
      have V37 : a.tmps.getD 60 undef = .bool true := hI.val 37 60 (by decide) rfl (dp 37 (by decide))
      have U10 : a.tmps.getD 10 undef = .int .i64 E := (kp 10 (by decide)).trans u10
      obtain ⟨og, g1, g2, -, -, -⟩ := o37
      exact wpOp_value_b (v := .int .i64 E) (w' := w) ho e4 g1 g2 (by rw [hI.size]; exact Nat.lt_of_lt_of_le (by decide) hs) V37 (by simp [execOp, e3, ev, evc, V37, U10]) (by rw [e2]; exact go rfl (Below.refl _ _) hw rfl)
    · obtain ⟨o', e1, e2, e3, e4, e5⟩ := o40
      obtain rfl := Option.some.inj (ho.symm.trans e1)
      have dp := dep_of' e5 hdep
      have V37 : a.tmps.getD 60 undef = .bool true := hI.val 37 60 (by decide) rfl (dp 37 (by decide))
      have V38 : a.tmps.getD 61 undef = .int .i64 E := hI.val 38 61 (by decide) rfl (dp 38 (by decide))
      have V39 : a.tmps.getD 62 undef = .int .i64 E := hI.val 39 62 (by decide) rfl (dp 39 (by decide))
      obtain ⟨og, g1, g2, -, -, -⟩ := o37
      exact wpOp_value_b (v := .bool true) (w' := w) ho e4 g1 g2 (by rw [hI.size]; exact Nat.lt_of_lt_of_le (by decide) hs) V37 (by simp [execOp, e3, ev, evc, V37, V38, V39, x40 w, eqGuard]) (by rw [e2]; exact go rfl (Below.refl _ _) hw rfl)
    · obtain ⟨o', e1, e2, e3, e4, e5⟩ := o41
      obtain rfl := Option.some.inj (ho.symm.trans e1)
      have dp := dep_of' e5 hdep
      have V37 : a.tmps.getD 60 undef = .bool true := hI.val 37 60 (by decide) rfl (dp 37 (by decide))
      have V40 : a.tmps.getD 63 undef = .bool true := hI.val 40 63 (by decide) rfl (dp 40 (by decide))
      exact wpOp_value (v := .bool true) (w' := w) ho e4 (by simp [execOp, e3, ev, evc, V37, V40, asBool]) (by rw [e2]; exact go rfl (Below.refl _ _) hw rfl)
    · obtain ⟨o', e1, e2, e3, e4, e5⟩ := o42
      obtain rfl := Option.some.inj (ho.symm.trans e1)
      have dp := dep_of' e5 hdep
      have V41 : a.tmps.getD 64 undef = .bool true := hI.val 41 64 (by decide) rfl (dp 41 (by decide))
      exact wpOp_value (v := .bool true) (w' := w) ho e4 (by simp [execOp, e3, ev, evc, V41]) (by rw [e2]; exact go rfl (Below.refl _ _) hw rfl)
  · intro l a w hall hI
    have all : ∀ j, j < 43 → l j = true := fun j hj => hall j (by rw [hsz]; exact hj)
    exact fin a w hI.size hI.defers hI.kept hI.world (fun i d hi hD => hI.val i d hi hD (all i hi))
end

/- The law holds a sequence against the document's: the contract of same. -/
section
open Go.ChangeShapes Go.WideShapes Go.ChangeAt Go.RowKit
set_option linter.unusedVariables false
set_option linter.unusedSimpArgs false

set_option maxRecDepth 4000 in
set_option maxHeartbeats 4000000 in
/-- what the law reads of both: the same -/
theorem same13_call {g g2 m : Nat} {s : Pl} {r : Nat → Nat} {B : Nat} {w : World} {x x2 b b2 : Nat} {t : ByteArray} {wd : Nat} {q : Sq} {a a2 : Option Addr} {c c2 : Nat} (h : SeqAt B w x b t wd q a c) (hp : PoolAt B w b g s) (h2 : DocAt B w x2 b2 t wd q a2 c2) (hp2 : RefAt B w b2 g2 s r) (hG : Good m s) (hq : SqOk wd q) (hu : ∀ z ∈ q.P, usedB s z = true) (hv : Wf64 s) (i : Int) :
    Calls Try.prog 20 #[.pointer (some ⟨x, 0, none⟩), .pointer (some ⟨x2, 0, none⟩), .int .i64 i] w fun e w' => e = .returned (.bool true) ∧ Below w.heap.size w w' := by
  have hl : q.P.length ≤ 1000 := Nat.le_trans hq.len hq.few
  have k25 := row_call h hp hG hq hu hv i
  have k46 : Hid (∀ W, Below w.heap.size w W → _) := fun W hb => rrow_call (h2.below hb) (hp2.below hb) hG hq hv i
  have HS : Hid (∀ W, Below w.heap.size w W → SeqAt B W x b t wd q a c ∧ PoolAt B W b g s ∧ DocAt B W x2 b2 t wd q a2 c2 ∧ RefAt B W b2 g2 s r) := fun W hb => ⟨h.below hb, hp.below hb, h2.below hb, hp2.below hb⟩
  have HG := hidden_ (And.intro hG (And.intro hq hl))
  obtain ⟨E, eE⟩ : ∃ E, rowE q i = E := ⟨_, rfl⟩
  obtain ⟨V, eV⟩ : ∃ V, rowV wd s q i = V := ⟨_, rfl⟩
  rw [eE, eV] at k25
  simp only [eE, eV] at k46
  clear h hp h2 hp2 hG hq hu hv eE eV hl
  go_enter Try.func20, Try.ntmps20
  go_wp2_with (first
    | (go_at_call 25; refine k25.mono ?_; rintro e W1 ⟨ra, rl, rc, rfl, hr1, hb1⟩; have kk := k46.out W1 hb1; have H1 := hidden_ (And.intro hr1 hb1); clear hr1 hb1 k25)
    | (go_at_call 46; refine kk.mono ?_; rintro e W2 ⟨rb, rm, rd, rfl, hr2, hb2⟩; have H2 := hidden_ (And.intro (H1.out.1.below hb2) (And.intro hr2 (below_then H1.out.2 hb2))); clear hr2 hb2 kk))
  refine sm_region x x2 q.P.length c2 rl rc rm rd w.heap.size (q.n : Int) (q.st : Int) (needV wd s q) E a2 ra rb q.P (fun W => Below w.heap.size w W ∧ Below W2.heap.size W2 W) (by kernel_rfl) rfl ⟨_, rfl, rfl, rfl, rfl, by kernel_rfl⟩ ⟨_, rfl, rfl, rfl, rfl, by kernel_rfl⟩ ⟨_, rfl, rfl, rfl, rfl, by kernel_rfl⟩ ⟨_, rfl, rfl, rfl, rfl, by kernel_rfl⟩ ⟨_, rfl, rfl, rfl, rfl, by kernel_rfl⟩ ⟨_, rfl, rfl, rfl, rfl, by kernel_rfl⟩ ⟨_, rfl, rfl, rfl, rfl, by kernel_rfl⟩ ⟨_, rfl, rfl, rfl, rfl, by kernel_rfl⟩ ⟨_, rfl, rfl, rfl, rfl, by kernel_rfl⟩ ⟨_, rfl, rfl, rfl, rfl, by kernel_rfl⟩ ⟨_, rfl, rfl, rfl, rfl, by kernel_rfl⟩ ⟨_, rfl, rfl, rfl, rfl, by kernel_rfl⟩ ⟨_, rfl, rfl, rfl, rfl, by kernel_rfl⟩ ⟨_, rfl, rfl, rfl, rfl, by kernel_rfl⟩ ⟨_, rfl, rfl, rfl, rfl, by kernel_rfl⟩ ⟨_, rfl, rfl, rfl, rfl, by kernel_rfl⟩ ⟨_, rfl, rfl, rfl, rfl, by kernel_rfl⟩ ⟨_, rfl, rfl, rfl, rfl, by kernel_rfl⟩ ⟨_, rfl, rfl, rfl, rfl, by kernel_rfl⟩ ⟨_, rfl, rfl, rfl, rfl, by kernel_rfl⟩ ⟨_, rfl, rfl, rfl, rfl, by kernel_rfl⟩ ⟨_, rfl, rfl, rfl, rfl, by kernel_rfl⟩ ⟨_, rfl, rfl, rfl, rfl, by kernel_rfl⟩ ⟨_, rfl, rfl, rfl, rfl, by kernel_rfl⟩ ⟨_, rfl, rfl, rfl, rfl, by kernel_rfl⟩ ⟨_, rfl, rfl, rfl, rfl, by kernel_rfl⟩ ⟨_, rfl, rfl, rfl, rfl, by kernel_rfl⟩ ⟨_, rfl, rfl, rfl, rfl, by kernel_rfl⟩ ⟨_, rfl, rfl, rfl, rfl, by kernel_rfl⟩ ⟨_, rfl, rfl, rfl, rfl, by kernel_rfl⟩ ⟨_, rfl, rfl, rfl, rfl, by kernel_rfl⟩ ⟨_, rfl, rfl, rfl, rfl, by kernel_rfl⟩ ⟨_, rfl, rfl, rfl, rfl, by kernel_rfl⟩ ⟨_, rfl, rfl, rfl, rfl, by kernel_rfl⟩ ⟨_, rfl, rfl, rfl, rfl, by kernel_rfl⟩ ⟨_, rfl, rfl, rfl, rfl, by kernel_rfl⟩ ⟨_, rfl, rfl, rfl, rfl, by kernel_rfl⟩ ⟨_, rfl, rfl, rfl, rfl, by kernel_rfl⟩ ⟨_, rfl, rfl, rfl, rfl, by kernel_rfl⟩ ⟨_, rfl, rfl, rfl, rfl, by kernel_rfl⟩ ⟨_, rfl, rfl, rfl, rfl, by kernel_rfl⟩ ⟨_, rfl, rfl, rfl, rfl, by kernel_rfl⟩ ⟨_, rfl, rfl, rfl, rfl, by kernel_rfl⟩ ⟨below_then H2.out.2.2 ⟨rfl, rfl, rfl, Nat.le_refl _, fun _ _ => rfl⟩, ⟨rfl, rfl, rfl, Nat.le_refl _, fun _ _ => rfl⟩⟩ (fun W hb => (len_call (HS.out W hb.1).1).mono (fun e w' h => ⟨h.1, by obtain ⟨-, rfl⟩ := h; exact ⟨Below.refl _ _, hb⟩⟩)) (fun w => run_fa51 x2 5 (by decide) w) (fun W hb => run_load3 (HS.out W hb.1).2.2.1.c5) (run_eql3_same _) (fun W hb => (first_call (HS.out W hb.1).1).mono (fun e w' h => ⟨h.1, by obtain ⟨-, rfl⟩ := h; exact ⟨Below.refl _ _, hb⟩⟩)) (fun w => run_fa51 x2 4 (by decide) w) (fun W hb => run_load3 (HS.out W hb.1).2.2.1.c4) (run_eql3_same _) (fun W hb => (pages_call (HS.out W hb.1).1 HG.out.2.2).mono (fun e w' ⟨pa, pc, h1, h2, h3⟩ => ⟨pa, pc, h1, h2.mono hb.1.size, h3, below_then hb.1 h3, below_then hb.2 h3⟩)) (fun w => run_fa51 x2 3 (by decide) w) (fun W hb => run_load49 (HS.out W hb.1).2.2.1.c3) (fun W hb pa pc hr => (same_ints pa _ pc q.P a2 _ c2 W hr.reads (HS.out W hb.1).2.2.1.pg).mono (fun e w' h => ⟨h.1, by obtain ⟨-, m', rfl⟩ := h; exact ⟨⟨rfl, rfl, rfl, Nat.le_refl _, fun _ _ => rfl⟩, below_then hb.1 ⟨rfl, rfl, rfl, Nat.le_refl _, fun _ _ => rfl⟩, below_then hb.2 ⟨rfl, rfl, rfl, Nat.le_refl _, fun _ _ => rfl⟩⟩⟩)) (fun W hb => (need_call (HS.out W hb.1).1 (HS.out W hb.1).2.1 HG.out.1 HG.out.2.1).mono (fun e w' h => ⟨h.1, by obtain ⟨-, m', rfl⟩ := h; exact ⟨⟨rfl, rfl, rfl, Nat.le_refl _, fun _ _ => rfl⟩, below_then hb.1 ⟨rfl, rfl, rfl, Nat.le_refl _, fun _ _ => rfl⟩, below_then hb.2 ⟨rfl, rfl, rfl, Nat.le_refl _, fun _ _ => rfl⟩⟩⟩)) (fun W hb => (rneed_call (HS.out W hb.1).2.2.1 (HS.out W hb.1).2.2.2 HG.out.1 HG.out.2.1).mono (fun e w' h => ⟨h.1, by obtain ⟨-, m', rfl⟩ := h; exact ⟨⟨rfl, rfl, rfl, Nat.le_refl _, fun _ _ => rfl⟩, below_then hb.1 ⟨rfl, rfl, rfl, Nat.le_refl _, fun _ _ => rfl⟩, below_then hb.2 ⟨rfl, rfl, rfl, Nat.le_refl _, fun _ _ => rfl⟩⟩⟩)) (run_eql3_same _) (fun W hb => (same_rows ra rl rc V rb rm rd W (H2.out.1.below hb.2).reads (H2.out.2.1.below hb.2).reads).mono (fun e w' h => ⟨h.1, by obtain ⟨-, m', rfl⟩ := h; exact ⟨⟨rfl, rfl, rfl, Nat.le_refl _, fun _ _ => rfl⟩, below_then hb.1 ⟨rfl, rfl, rfl, Nat.le_refl _, fun _ _ => rfl⟩, below_then hb.2 ⟨rfl, rfl, rfl, Nat.le_refl _, fun _ _ => rfl⟩⟩⟩)) (run_eql25_same _) rfl rfl rfl rfl rfl rfl (Nat.le_of_ble_eq_true rfl) ?_
  intro a W9 hs hd hkp hS9 hval
  have e6 : a.tmps.getD 6 undef = .bool true := hval 42 6 (by decide) rfl
  have ep := frame_puts [23, 24, 25, 26, 27, 28, 29, 30, 31, 32, 33, 34, 35, 36, 37, 38, 39, 40, 41, 42, 43, 44, 45, 46, 47, 48, 49, 50, 51, 52, 53, 54, 55, 56, 57, 58, 59, 60, 61, 62, 63, 64, 6] hs hd (fun s h => hkp s (fun i hi e => h (by
    rcases (show i = 0 ∨ i = 1 ∨ i = 2 ∨ i = 3 ∨ i = 4 ∨ i = 5 ∨ i = 6 ∨ i = 7 ∨ i = 8 ∨ i = 9 ∨ i = 10 ∨ i = 11 ∨ i = 12 ∨ i = 13 ∨ i = 14 ∨ i = 15 ∨ i = 16 ∨ i = 17 ∨ i = 18 ∨ i = 19 ∨ i = 20 ∨ i = 21 ∨ i = 22 ∨ i = 23 ∨ i = 24 ∨ i = 25 ∨ i = 26 ∨ i = 27 ∨ i = 28 ∨ i = 29 ∨ i = 30 ∨ i = 31 ∨ i = 32 ∨ i = 33 ∨ i = 34 ∨ i = 35 ∨ i = 36 ∨ i = 37 ∨ i = 38 ∨ i = 39 ∨ i = 40 ∨ i = 41 ∨ i = 42 by omega) with rfl | rfl | rfl | rfl | rfl | rfl | rfl | rfl | rfl | rfl | rfl | rfl | rfl | rfl | rfl | rfl | rfl | rfl | rfl | rfl | rfl | rfl | rfl | rfl | rfl | rfl | rfl | rfl | rfl | rfl | rfl | rfl | rfl | rfl | rfl | rfl | rfl | rfl | rfl | rfl | rfl | rfl | rfl <;> (simp only [smD, Option.some.injEq] at e; subst e; simp))))
  simp only [List.foldl] at ep
  rw [e6] at ep
  have H9 := hidden_ hS9
  clear hs hd hkp hval hS9 e6
  generalize a.tmps.getD 23 undef = g23 at ep
  generalize a.tmps.getD 24 undef = g24 at ep
  generalize a.tmps.getD 25 undef = g25 at ep
  generalize a.tmps.getD 26 undef = g26 at ep
  generalize a.tmps.getD 27 undef = g27 at ep
  generalize a.tmps.getD 28 undef = g28 at ep
  generalize a.tmps.getD 29 undef = g29 at ep
  generalize a.tmps.getD 30 undef = g30 at ep
  generalize a.tmps.getD 31 undef = g31 at ep
  generalize a.tmps.getD 32 undef = g32 at ep
  generalize a.tmps.getD 33 undef = g33 at ep
  generalize a.tmps.getD 34 undef = g34 at ep
  generalize a.tmps.getD 35 undef = g35 at ep
  generalize a.tmps.getD 36 undef = g36 at ep
  generalize a.tmps.getD 37 undef = g37 at ep
  generalize a.tmps.getD 38 undef = g38 at ep
  generalize a.tmps.getD 39 undef = g39 at ep
  generalize a.tmps.getD 40 undef = g40 at ep
  generalize a.tmps.getD 41 undef = g41 at ep
  generalize a.tmps.getD 42 undef = g42 at ep
  generalize a.tmps.getD 43 undef = g43 at ep
  generalize a.tmps.getD 44 undef = g44 at ep
  generalize a.tmps.getD 45 undef = g45 at ep
  generalize a.tmps.getD 46 undef = g46 at ep
  generalize a.tmps.getD 47 undef = g47 at ep
  generalize a.tmps.getD 48 undef = g48 at ep
  generalize a.tmps.getD 49 undef = g49 at ep
  generalize a.tmps.getD 50 undef = g50 at ep
  generalize a.tmps.getD 51 undef = g51 at ep
  generalize a.tmps.getD 52 undef = g52 at ep
  generalize a.tmps.getD 53 undef = g53 at ep
  generalize a.tmps.getD 54 undef = g54 at ep
  generalize a.tmps.getD 55 undef = g55 at ep
  generalize a.tmps.getD 56 undef = g56 at ep
  generalize a.tmps.getD 57 undef = g57 at ep
  generalize a.tmps.getD 58 undef = g58 at ep
  generalize a.tmps.getD 59 undef = g59 at ep
  generalize a.tmps.getD 60 undef = g60 at ep
  generalize a.tmps.getD 61 undef = g61 at ep
  generalize a.tmps.getD 62 undef = g62 at ep
  generalize a.tmps.getD 63 undef = g63 at ep
  generalize a.tmps.getD 64 undef = g64 at ep
  simp only [Act.put, List.setIfInBounds_toArray, List.set_cons_succ, List.set_cons_zero] at ep
  subst ep
  go_wp2
  go_ret
  exact ⟨rfl, H9.out.1⟩
end

end Go.Proofs.Ytgjjeggopeppfaa
