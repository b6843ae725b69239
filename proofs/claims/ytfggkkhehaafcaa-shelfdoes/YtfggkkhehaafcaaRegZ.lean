/- Texts put together: RegHo, RegSe, RegAc. -/
import Derived.Test.YtfggkkhehaafcaaRows
import Derived.Test.YtfggkkhehaafcaaPages
import Derived.Test.YtfggkkhehaafcaaView
import Derived.Test.YtfggkkhehaafcaaOwn
import Derived.Test.YtfggkkhehaafcaaLeast
import Derived.Test.YtfggkkhehaafcaaInvIn
import Derived.Test.YtfggkkhehaafcaaPutReg
import Derived.WalkKit
import Derived.ProofKit
import Derived.OpenShut
import Derived.Below
import Derived.WalkLawsBesides
import Derived.Deep.QuietTactic
import Derived.BigQuiet
import Derived.RangeFuncNested
import Derived.RangeFuncBox
import Derived.RangeFuncBound
import Derived.RangeFuncCalls
import Derived.RangeFuncLeaves
import Derived.Shelf.Abstract
import Derived.Shelf.RegionOpen
import Derived.OwnWalkIn
import Derived.TacticsInMore
import Derived.LoopNIn
import Derived.LoopIn
import Derived.Orders
import Derived.Test.YtfggkkhehaafcaaShAt
import Derived.Test.YtfggkkhehaafcaaWorksK
namespace Go.Proofs.Ytfggkkhehaafcaa

/- The region of ShelfHolds that copies the weights and puts them. -/
section
open Go.ChangeShapes Go.WideShapes Go.ChangeAt Go.RowKit
set_option linter.unusedVariables false
set_option linter.unusedSimpArgs false

set_option linter.unusedSimpArgs false

theorem run_build37 (w : World) : (Instr.buildSlice 37 0 #[]).run Try.prog w = .ok (.slice (some ⟨w.heap.size, 0, none⟩) 0 0) (w.alloc (.cells #[] 59)) := by go_simp
theorem run_field39 (X : Addr) (f : Nat) (hf : f < 4) (w : World) : (Instr.fieldAt 39 (.pointer (some X)) f).run Try.prog w = .ok (.pointer (some (X.add f))) w := by
  rcases (show f = 0 ∨ f = 1 ∨ f = 2 ∨ f = 3 by omega) with rfl | rfl | rfl | rfl <;> go_simp
theorem run_load9 {w : World} {p : Addr} {t : ByteArray} (h : w.cell? p = some (.string t)) : (Instr.loadAt 9 (.pointer (some p))).run Try.prog w = .ok (.string t) w := by go_simp
theorem run_eql25 (x y : Int) (w : World) : (binOp .eql 25 (.int .i64 x) (.int .i64 y)).run Try.prog w = .ok (.bool (x == y)) w := by go_simp

def hoD (i : Nat) : Option Nat := match i with | 0 => some 60 | 1 => some 61 | 2 => some 62 | 3 => some 63 | 4 => some 64 | 5 => some 65 | 6 => some 66 | 7 => some 67 | 8 => some 68 | _ => none
theorem hoD_inj : ∀ i, i < 9 → ∀ j, j < 9 → hoD i = hoD j → hoD i ≠ none → i = j := by decide
theorem hoD_lt : ∀ i, i < 9 → ∀ d, hoD i = some d → d < 225 := by
  intro i hi d h
  have : ∀ i, i < 9 → (hoD i).all (fun d => decide (d < 225)) = true := by decide
  have := this i hi
  rw [h] at this
  simpa using this
def hoF (x : Nat) (X : Addr) (g : Nat) (t : ByteArray) (sa : Option Addr) (sn sc : Nat) (ca : Option Addr) (cn cc : Nat) (E : Int) (i : Nat) (q : Value) (w : World) : Prop := match i with
  | 0 => q = .pointer (some ⟨x, 0, none⟩)
  | 1 => q = .pointer (some (X.add 1))
  | 2 => q = .string t
  | 3 => q = .slice (some ⟨g, 0, none⟩) 0 0
  | 4 => q = .pointer (some (X.add 2))
  | 5 => q = .slice sa sn sc
  | 6 => q = .slice ca cn cc
  | 7 => q = .int .i64 E
  | 8 => q = .bool (E == 0)
  | _ => True
def hoR (w0 W2 : World) (P1 P2 : World → Prop) (l : Nat → Bool) (w : World) : Prop := (l 3 = false → w = w0.drew) ∧ (l 3 = true → l 6 = false → w = w0.drew.alloc (.cells #[] 59)) ∧ (l 6 = true → l 7 = false → w = W2) ∧ (l 7 = true → P1 w)

set_option maxHeartbeats 8000000 in
theorem ho_region {id : Nat} {ops : Array Oper} {Q : Exit → Act → World → Prop} {a0 : Act} {w0 : World} (x : Nat) (X : Addr) (g : Nat) (t : ByteArray) (sa : Option Addr) (sn sc : Nat) (ca : Option Addr) (cn cc : Nat) (E : Int) (W2 : World) (S P1 P2 : World → Prop) (hlow : lowB ops = true) (hsz : ops.size = 9)
    (o0 : OpIn ops 0 (some 60) (.move (.tmp 7)) none []) (o1 : OpIn ops 1 (some 61) (.fieldAddr 39 (.tmp 12) 1) none []) (o2 : OpIn ops 2 (some 62) (.load 9 (.tmp 61)) none [1]) (o3 : OpIn ops 3 (some 63) (.buildSlice 37 0 #[]) none []) (o4 : OpIn ops 4 (some 64) (.fieldAddr 39 (.tmp 12) 2) none []) (o5 : OpIn ops 5 (some 65) (.load 37 (.tmp 64)) none [4]) (o6 : OpIn ops 6 (some 66) (.call { callee := .builtin .append, args := #[.tmp 63, .tmp 65], argTypes := #[37, 37] }) none [3, 5]) (o7 : OpIn ops 7 (some 67) (.call { callee := .value (.func 23), args := #[.tmp 60, .tmp 62, .tmp 66], argTypes := #[31, 9, 37] }) none [0, 2, 6]) (o8 : OpIn ops 8 (some 68) (.binOp .eql 25 (.tmp 67) (.const (.int .i64 0)) 25) none [7])
    (ty : TypeId) (hty : ∀ o, ops[6]? = some o → o.type = ty)
    (hS0 : S w0.drew) (hS1 : S (w0.drew.alloc (.cells #[] 59))) (hS2 : S W2) (hSP : ∀ w, P1 w → S w)
    (h7 : a0.tmps.getD 7 undef = .pointer (some ⟨x, 0, none⟩)) (h12 : a0.tmps.getD 12 undef = .pointer (some X)) (hg : g = w0.heap.size)
    (ld9 : ∀ w, S w → (Instr.loadAt 9 (.pointer (some (X.add 1)))).run Try.prog w = .ok (.string t) w) (ld37 : ∀ w, S w → (Instr.loadAt 37 (.pointer (some (X.add 2)))).run Try.prog w = .ok (.slice sa sn sc) w)
    (hap : (Builtin.append_ #[37, 37] ty #[.slice (some ⟨g, 0, none⟩) 0 0, .slice sa sn sc]).run Try.prog (w0.drew.alloc (.cells #[] 59)) = .ok (.slice ca cn cc) W2)
    (kc : Calls Try.prog 23 #[.pointer (some ⟨x, 0, none⟩), .string t, .slice ca cn cc] W2 fun e w' => e = .returned (.int .i64 E) ∧ P1 w')
    (hs : 225 ≤ a0.tmps.size)
    (fin : ∀ a w, a.tmps.size = a0.tmps.size → a.defers = a0.defers → (∀ s, (∀ i, i < 9 → hoD i ≠ some s) → a.tmps.getD s undef = a0.tmps.getD s undef) → (∀ i d, i < 9 → hoD i = some d → hoF x X g t sa sn sc ca cn cc E i (a.tmps.getD d undef) w) → P1 w → Q .normal a w) :
    (Code.region id ops true).wp Try.prog Q a0 w0 := by
  have r23 : ∀ args w, (callFunc 23 args).run Try.prog w = .ok (.enter 23 args) w := enters_of Try.func23 (by kernel_rfl) rfl
  refine wp_region_inv2 (by kernel_rfl) hlow (Inv 9 hoD a0 (fun l _ w => hoR w0 W2 P1 P2 l w) (fun _ => hoF x X g t sa sn sc ca cn cc E)) (Inv.start ⟨fun _ => rfl, (fun h => by cases h), (fun h => by cases h), fun h => by cases h⟩) ?_ ?_
  · intro l i o a w ho hl hcl hdep hI
    have hi : i < 9 := by rw [← hsz]; exact (Array.getElem?_eq_some_iff.1 ho).1
    have ev : ∀ (s : Nat), a.eval (.tmp s) = a.tmps.getD s undef := fun _ => rfl
    have evf : ∀ f, a.eval (.func f) = .func (.func f) #[] #[] := fun _ => rfl
    have evc : ∀ c : Value, a.eval (.const c) = c := fun _ => rfl
    have inj : ∀ d, hoD i = some d → ∀ j d', j < 9 → hoD j = some d' → j ≠ i → d' ≠ d := fun d hd j d' hj hd' hne e => hne (hoD_inj j hj i hi (by rw [hd', hd, e]) (by rw [hd']; simp))
    have kp : ∀ s, (∀ i, i < 9 → hoD i ≠ some s) → a.tmps.getD s undef = a0.tmps.getD s undef := hI.kept
    have oth : ∀ j, j ≠ i → (l j || j == i) = l j := fun j hj => by rw [show (j == i) = false by simp [hj], Bool.or_false]
    have sam : (l i || i == i) = true := by simp
    have go : ∀ {d : Nat} {v : Value}, hoD i = some d → (i = 0 ∨ i = 1 ∨ i = 2 ∨ i = 4 ∨ i = 5 ∨ i = 8) → hoF x X g t sa sn sc ca cn cc E i v w → Inv 9 hoD a0 (fun l _ w => hoR w0 W2 P1 P2 l w) (fun _ => hoF x X g t sa sn sc ca cn cc E) (fun j => l j || j == i) (a.put (some d) v) w := by
      intro d v hD hi' hF
      refine hI.put hi hD (Nat.lt_of_lt_of_le (hoD_lt i hi d hD) hs) (inj d hD) ?_ hF (fun j u _ _ _ hf => hf)
      show hoR w0 W2 P1 P2 _ w
      unfold hoR
      dsimp only
      rw [oth 3 (by omega), oth 6 (by omega), oth 7 (by omega)]
      exact hI.world
    have hSw : l 7 = false → S w := fun hc => by
      cases e1 : l 3 with
      | false => rw [hI.world.1 e1]; exact hS0
      | true =>
        cases e2 : l 6 with
        | false => rw [hI.world.2.1 e1 e2]; exact hS1
        | true => rw [hI.world.2.2.1 e2 hc]; exact hS2
    rcases (show i = 0 ∨ i = 1 ∨ i = 2 ∨ i = 3 ∨ i = 4 ∨ i = 5 ∨ i = 6 ∨ i = 7 ∨ i = 8 by omega) with rfl | rfl | rfl | rfl | rfl | rfl | rfl | rfl | rfl
    · obtain ⟨o', e1, e2, e3, e4, e5⟩ := o0
      obtain rfl := Option.some.inj (ho.symm.trans e1)
      have dp := dep_of' e5 hdep
      exact wpOp_value (v := .pointer (some ⟨x, 0, none⟩)) (w' := w) ho e4 (by simp [execOp, e3, ev, evc, kp 7 (by decide), h7]) (by rw [e2]; exact go rfl (by decide) rfl)
    · obtain ⟨o', e1, e2, e3, e4, e5⟩ := o1
      obtain rfl := Option.some.inj (ho.symm.trans e1)
      have dp := dep_of' e5 hdep
      exact wpOp_value (v := .pointer (some (X.add 1))) (w' := w) ho e4 (by simp [execOp, e3, ev, evc, kp 12 (by decide), h12, run_field39 X 1 (by decide)]) (by rw [e2]; exact go rfl (by decide) rfl)
    · obtain ⟨o', e1, e2, e3, e4, e5⟩ := o2
      obtain rfl := Option.some.inj (ho.symm.trans e1)
      have dp := dep_of' e5 hdep
      have V1 : a.tmps.getD 61 undef = .pointer (some (X.add 1)) := hI.val 1 61 (by decide) rfl (dp 1 (by decide))
      have nl : l 7 = false := by
        cases e : l 7 with
        | false => rfl
        | true =>
          exfalso
          have y0 := hcl.dep' o7 e 2 (by decide)
          rw [hl] at y0
          cases y0
      exact wpOp_value (v := .string t) (w' := w) ho e4 (by simp [execOp, e3, ev, V1, ld9 w (hSw nl)]) (by rw [e2]; exact go rfl (by decide) rfl)
    · obtain ⟨o', e1, e2, e3, e4, e5⟩ := o3
      obtain rfl := Option.some.inj (ho.symm.trans e1)
      have dp := dep_of' e5 hdep
      have n6 : l 6 = false := by cases e : l 6 with | false => rfl | true => have := hcl.dep' o6 e 3 (by decide); rw [hl] at this; cases this
      have n7 : l 7 = false := by cases e : l 7 with | false => rfl | true => have := hcl.dep' o7 e 6 (by decide); rw [n6] at this; cases this
      obtain rfl := hI.world.1 hl
      refine wpOp_value (v := .slice (some ⟨g, 0, none⟩) 0 0) (w' := w0.drew.alloc (.cells #[] 59)) ho e4 (by simp [execOp, e3, run_build37, hg]) ?_
      rw [e2]
      refine hI.put hi rfl (Nat.lt_of_lt_of_le (by decide) hs) (inj 63 rfl) ?_ rfl (fun j u hj hlj hne hf => hf)
      show hoR w0 _ P1 P2 _ _
      unfold hoR
      dsimp only
      rw [sam, oth 6 (by decide), oth 7 (by decide)]
      exact ⟨(fun h => by cases h), fun _ _ => rfl, (fun h => by rw [n6] at h; cases h), (fun h => by rw [n7] at h; cases h)⟩
    · obtain ⟨o', e1, e2, e3, e4, e5⟩ := o4
      obtain rfl := Option.some.inj (ho.symm.trans e1)
      have dp := dep_of' e5 hdep
      exact wpOp_value (v := .pointer (some (X.add 2))) (w' := w) ho e4 (by simp [execOp, e3, ev, evc, kp 12 (by decide), h12, run_field39 X 2 (by decide)]) (by rw [e2]; exact go rfl (by decide) rfl)
    · obtain ⟨o', e1, e2, e3, e4, e5⟩ := o5
      obtain rfl := Option.some.inj (ho.symm.trans e1)
      have dp := dep_of' e5 hdep
      have V4 : a.tmps.getD 64 undef = .pointer (some (X.add 2)) := hI.val 4 64 (by decide) rfl (dp 4 (by decide))
      have nl : l 7 = false := by
        cases e : l 7 with
        | false => rfl
        | true =>
          exfalso
          have y0 := hcl.dep' o7 e 6 (by decide)
          have y1 := hcl.dep' o6 y0 5 (by decide)
          rw [hl] at y1
          cases y1
      exact wpOp_value (v := .slice sa sn sc) (w' := w) ho e4 (by simp [execOp, e3, ev, V4, ld37 w (hSw nl)]) (by rw [e2]; exact go rfl (by decide) rfl)
    · obtain ⟨o', e1, e2, e3, e4, e5⟩ := o6
      obtain rfl := Option.some.inj (ho.symm.trans e1)
      have dp := dep_of' e5 hdep
      have V3 : a.tmps.getD 63 undef = .slice (some ⟨g, 0, none⟩) 0 0 := hI.val 3 63 (by decide) rfl (dp 3 (by decide))
      have V5 : a.tmps.getD 65 undef = .slice sa sn sc := hI.val 5 65 (by decide) rfl (dp 5 (by decide))
      have n7 : l 7 = false := by cases e : l 7 with | false => rfl | true => have := hcl.dep' o7 e 6 (by decide); rw [hl] at this; cases this
      obtain rfl := hI.world.2.1 (dp 3 (by decide)) hl
      have hap' := hap
      rw [← hty _ ho] at hap'
      refine wpOp_value (v := .slice ca cn cc) (w' := W2) ho e4 (by simp only [execOp, e3, resolve, invoke, builtin, Sem.run_bind, Sem.run_pure, Result.andThen_ok, List.map_toArray, List.map_cons, List.map_nil, ev, V3, V5, hap']) ?_
      rw [e2]
      refine hI.put hi rfl (Nat.lt_of_lt_of_le (by decide) hs) (inj 66 rfl) ?_ rfl (fun j u hj hlj hne hf => hf)
      show hoR w0 _ P1 P2 _ _
      unfold hoR
      dsimp only
      rw [sam, oth 3 (by decide), oth 7 (by decide)]
      exact ⟨(fun h => by rw [dp 3 (by decide)] at h; cases h), (fun _ h => by cases h), fun _ _ => rfl, (fun h => by rw [n7] at h; cases h)⟩
    · obtain ⟨o', e1, e2, e3, e4, e5⟩ := o7
      obtain rfl := Option.some.inj (ho.symm.trans e1)
      have dp := dep_of' e5 hdep
      have V0 : a.tmps.getD 60 undef = .pointer (some ⟨x, 0, none⟩) := hI.val 0 60 (by decide) rfl (dp 0 (by decide))
      have V2 : a.tmps.getD 62 undef = .string t := hI.val 2 62 (by decide) rfl (dp 2 (by decide))
      have V6 : a.tmps.getD 66 undef = .slice ca cn cc := hI.val 6 66 (by decide) rfl (dp 6 (by decide))
      obtain rfl := hI.world.2.2.1 (dp 6 (by decide)) hl
      refine wpOp_call (f := 23) (args := #[.pointer (some ⟨x, 0, none⟩), .string t, .slice ca cn cc]) ho e4 (by simp [execOp, e3, resolve, invoke, Deferred.ofValue, r23, ev, evf, evc, V0, V2, V6]) (kc.mono ?_)
      rintro e W' ⟨rfl, hp⟩
      refine ⟨_, rfl, ?_⟩
      rw [e2]
      refine hI.put hi rfl (Nat.lt_of_lt_of_le (by decide) hs) (inj 67 rfl) ?_ rfl (fun j u hj hlj hne hf => hf)
      show hoR w0 _ P1 P2 _ _
      unfold hoR
      dsimp only
      rw [sam, oth 3 (by decide), oth 6 (by decide)]
      exact ⟨(fun h => by rw [hcl.dep' o6 (dp 6 (by decide)) 3 (by decide)] at h; cases h), (fun _ h => by rw [dp 6 (by decide)] at h; cases h), (fun _ h => by cases h), fun _ => hp⟩
    · obtain ⟨o', e1, e2, e3, e4, e5⟩ := o8
      obtain rfl := Option.some.inj (ho.symm.trans e1)
      have dp := dep_of' e5 hdep
      have V7 : a.tmps.getD 67 undef = .int .i64 E := hI.val 7 67 (by decide) rfl (dp 7 (by decide))
      exact wpOp_value (v := .bool (E == 0)) (w' := w) ho e4 (by simp [execOp, e3, ev, evc, V7, run_eql25, eqGuard]) (by rw [e2]; exact go rfl (by decide) rfl)
  · intro l a w hall hI
    have all : ∀ j, j < 9 → l j = true := fun j hj => hall j (by rw [hsz]; exact hj)
    exact fin a w hI.size hI.defers hI.kept (fun i d hi hD => hI.val i d hi hD (all i hi)) (hI.world.2.2.2 (all 7 (by decide)))
end

/- The region in which the law ShelfDoes holds both shelves against each other. -/
section
open Go.ChangeShapes Go.WideShapes Go.ChangeAt Go.RowKit
set_option linter.unusedVariables false
set_option linter.unusedSimpArgs false

theorem run_neq3 (x y : Int) (w : World) : (binOp .neq 3 (.int .i64 x) (.int .i64 y)).run Try.prog w = .ok (.bool (x != y)) w := by go_simp
theorem run_neq25 (x y : Int) (w : World) : (binOp .neq 25 (.int .i64 x) (.int .i64 y)).run Try.prog w = .ok (.bool (x != y)) w := by go_simp
theorem run_neq3_same (x : Int) (w : World) : (binOp .neq 3 (.int .i64 x) (.int .i64 x)).run Try.prog w = .ok (.bool false) w := by rw [run_neq3]; simp
theorem run_neq25_same (x : Int) (w : World) : (binOp .neq 25 (.int .i64 x) (.int .i64 x)).run Try.prog w = .ok (.bool false) w := by rw [run_neq25]; simp
theorem run_fa39 (b f : Nat) (hf : f < 4) (w : World) : (Instr.fieldAt 39 (.pointer (some ⟨b, 0, none⟩)) f).run Try.prog w = .ok (.pointer (some ⟨b, f, none⟩)) w := by
  rcases (show f = 0 ∨ f = 1 ∨ f = 2 ∨ f = 3 by omega) with rfl | rfl | rfl | rfl <;> go_simp

theorem wpOp_value_b {P : Program} {ops : Array Oper} {Q : Exit → Act → World → Prop} {i gi p : Nat} {bb : Bool} {o og : Oper} {a : Act} {w w' : World} {v : Value} {K : Act → World → Prop} (ho : ops[i]? = some o) (hg : o.guard = some (gi, bb)) (hgo : ops[gi]? = some og) (hgd : og.dst = some p) (hp : p < a.tmps.size) (hb : a.tmps.getD p undef = .bool bb)
    (hr : (execOp a.eval o).run P w = .ok (.value v) w') (hK : K (a.put o.dst v) w') : wpOp P ops Q i K a w := by
  have hy : yielded ops a.tmps gi = some bb := by
    unfold yielded
    rw [hgo]
    simp only [Option.bind_some, hgd]
    rw [Array.getD_eq_getD_getElem?] at hb
    rw [Array.getElem?_eq_getElem hp] at hb ⊢
    simp only [Option.getD_some] at hb
    rw [hb]
  unfold wpOp
  simp only [ho]
  have hw : Region.wanted o (yielded ops a.tmps) = true := by simp [Region.wanted, hg, hy]
  rw [if_pos hw]
  refine .inl ?_
  unfold Oper.wp
  rw [hr]
  exact hK
theorem wpOp_call_b {P : Program} {ops : Array Oper} {Q : Exit → Act → World → Prop} {i gi p : Nat} {bb : Bool} {o og : Oper} {a : Act} {w : World} {f : FuncId} {args : Array Value} {K : Act → World → Prop} (ho : ops[i]? = some o) (hg : o.guard = some (gi, bb)) (hgo : ops[gi]? = some og) (hgd : og.dst = some p) (hp : p < a.tmps.size) (hb : a.tmps.getD p undef = .bool bb)
    (hr : (execOp a.eval o).run P w = .ok (.enter f args) w) (c : Calls P f args w fun e w' => ∃ v, e = .returned v ∧ K (a.put o.dst v) w') : wpOp P ops Q i K a w := by
  have hy : yielded ops a.tmps gi = some bb := by
    unfold yielded
    rw [hgo]
    simp only [Option.bind_some, hgd]
    rw [Array.getD_eq_getD_getElem?] at hb
    rw [Array.getElem?_eq_getElem hp] at hb ⊢
    simp only [Option.getD_some] at hb
    rw [hb]
  unfold wpOp
  simp only [ho]
  have hw : Region.wanted o (yielded ops a.tmps) = true := by simp [Region.wanted, hg, hy]
  rw [if_pos hw]
  refine .inl ?_
  unfold Oper.wp
  rw [hr]
  unfold Oper.upon
  refine c.mono ?_
  rintro e w' ⟨v, rfl, hK⟩
  exact hK
def seD (i : Nat) : Option Nat := match i with | 0 => some 83 | 1 => some 84 | 2 => some 85 | 3 => some 86 | 4 => some 87 | 5 => some 88 | 6 => some 89 | 7 => some 90 | 8 => some 91 | 9 => some 92 | 10 => some 93 | 11 => some 94 | 12 => some 95 | 13 => some 96 | 14 => some 97 | 15 => some 98 | 16 => some 99 | 17 => some 100 | 18 => some 101 | 19 => some 102 | 20 => some 103 | 21 => some 104 | 22 => some 105 | 23 => some 106 | 24 => some 107 | 25 => some 108 | 26 => some 109 | 27 => some 110 | 28 => some 111 | 29 => some 112 | 30 => some 113 | 31 => some 114 | 32 => some 115 | 33 => some 116 | 34 => some 117 | 35 => some 118 | 36 => some 119 | 37 => some 120 | 38 => some 121 | 39 => some 122 | 40 => some 123 | _ => none
theorem seD_inj : ∀ i, i < 41 → ∀ j, j < 41 → seD i = seD j → seD i ≠ none → i = j := by decide
theorem seD_lt : ∀ i, i < 41 → ∀ d, seD i = some d → d < 124 := by
  intro i hi d h
  have : ∀ i, i < 41 → (seD i).all (fun d => decide (d < 124)) = true := by decide
  have := this i hi
  rw [h] at this
  simpa using this
def seF (x y b p ob l1 c1 l2 c2 : Nat) (z r E : Int) (t : ByteArray) (a1 a2 : Option Addr) (ts : List ByteArray) (i : Nat) (q : Value) (w : World) : Prop := match i with
  | 0 => q = .slice a1 l1 c1
  | 1 => q = .slice a2 l2 c2
  | 2 => q = .bool true
  | 3 => q = .bool false
  | 4 => q = .bool false
  | 5 => q = .int .i64 E
  | 6 => q = .int .i64 E
  | 7 => q = .bool false
  | 8 => q = .bool false
  | 9 => q = .bool false
  | 10 => q = .pointer (some ⟨x, 0, none⟩)
  | 11 => q = .pointer (some ⟨ob, 1, none⟩)
  | 12 => q = .string t
  | 13 => q = .int .i64 z
  | 14 => q = .pointer (some ⟨y, 0, none⟩)
  | 15 => q = .pointer (some ⟨ob, 1, none⟩)
  | 16 => q = .string t
  | 17 => q = .int .i64 z
  | 18 => q = .bool false
  | 19 => q = .bool false
  | 20 => q = .bool false
  | 21 => q = .pointer (some ⟨x, 0, none⟩)
  | 22 => ∃ ra rl rc, q = .slice ra rl rc ∧ RowT 0 w ra rl rc ts
  | 23 => q = .pointer (some ⟨y, 0, none⟩)
  | 24 => ∃ ra rl rc, q = .slice ra rl rc ∧ RowT 0 w ra rl rc ts
  | 25 => q = .bool true
  | 26 => q = .bool false
  | 27 => q = .bool false
  | 28 => q = .bool false
  | 29 => q = .pointer (some ⟨x, 0, none⟩)
  | 30 => q = .int .i64 r
  | 31 => q = .pointer (some ⟨y, 0, none⟩)
  | 32 => q = .int .i64 r
  | 33 => q = .bool false
  | 34 => q = .bool false
  | 35 => q = .bool false
  | 36 => q = .pointer (some ⟨b, 0, none⟩)
  | 37 => q = .pointer (some ⟨p, 0, none⟩)
  | 38 => q = .bool true
  | 39 => q = .bool false
  | 40 => q = .bool false
  | _ => True
theorem seF_below {x y b p ob l1 c1 l2 c2 : Nat} {z r E : Int} {t : ByteArray} {a1 a2 : Option Addr} {ts : List ByteArray} {i : Nat} {q : Value} {w w' : World} (h : seF x y b p ob l1 c1 l2 c2 z r E t a1 a2 ts i q w) (hb : Below w.heap.size w w') : seF x y b p ob l1 c1 l2 c2 z r E t a1 a2 ts i q w' := by
  unfold seF at h ⊢
  split
  · exact h
  · exact h
  · exact h
  · exact h
  · exact h
  · exact h
  · exact h
  · exact h
  · exact h
  · exact h
  · exact h
  · exact h
  · exact h
  · exact h
  · exact h
  · exact h
  · exact h
  · exact h
  · exact h
  · exact h
  · exact h
  · exact h
  · obtain ⟨ra, rl, rc, h1, h2⟩ := h; exact ⟨ra, rl, rc, h1, h2.below hb⟩
  · exact h
  · obtain ⟨ra, rl, rc, h1, h2⟩ := h; exact ⟨ra, rl, rc, h1, h2.below hb⟩
  · exact h
  · exact h
  · exact h
  · exact h
  · exact h
  · exact h
  · exact h
  · exact h
  · exact h
  · exact h
  · exact h
  · exact h
  · exact h
  · exact h
  · exact h
  · exact h
  · trivial

set_option maxHeartbeats 8000000 in
theorem se_region {id : Nat} {ops : Array Oper} {Q : Exit → Act → World → Prop} {a0 : Act} {w0 : World} (x y b p ob l1 c1 l2 c2 : Nat) (z r E : Int) (t : ByteArray) (a1 a2 : Option Addr) (ts : List ByteArray) (S : World → Prop) (hlow : lowB ops = true) (hsz : ops.size = 41)
    (o0 : OpIn ops 0 (some 83) (.move (.tmp 13)) none []) (o1 : OpIn ops 1 (some 84) (.move (.tmp 15)) none []) (o2 : OpIn ops 2 (some 85) (.call { callee := .value (.func 13), args := #[.tmp 83, .tmp 84], argTypes := #[37, 37] }) none [0, 1]) (o3 : OpIn ops 3 (some 86) (.unOp .not 4 (.tmp 85)) none [2]) (o4 : OpIn ops 4 (some 87) (.move (.tmp 86)) none [3]) (o5 : OpIn ops 5 (some 88) (.move (.tmp 14)) (some (4, false)) [4]) (o6 : OpIn ops 6 (some 89) (.move (.tmp 16)) (some (4, false)) [4]) (o7 : OpIn ops 7 (some 90) (.binOp .neq 25 (.tmp 88) (.tmp 89) 25) (some (4, false)) [4, 5, 6]) (o8 : OpIn ops 8 (some 91) (.pick (.tmp 87) (.const (.bool true)) (.tmp 90)) none [4, 7]) (o9 : OpIn ops 9 (some 92) (.move (.tmp 91)) none [8]) (o10 : OpIn ops 10 (some 93) (.move (.tmp 9)) (some (9, false)) [9]) (o11 : OpIn ops 11 (some 94) (.fieldAddr 39 (.tmp 12) 1) (some (9, false)) [9]) (o12 : OpIn ops 12 (some 95) (.load 9 (.tmp 94)) (some (9, false)) [9, 11]) (o13 : OpIn ops 13 (some 96) (.call { callee := .value (.func 14), args := #[.tmp 93, .tmp 95], argTypes := #[31, 9] }) (some (9, false)) [9, 10, 12]) (o14 : OpIn ops 14 (some 97) (.move (.tmp 10)) (some (9, false)) [9]) (o15 : OpIn ops 15 (some 98) (.fieldAddr 39 (.tmp 12) 1) (some (9, false)) [9]) (o16 : OpIn ops 16 (some 99) (.load 9 (.tmp 98)) (some (9, false)) [9, 15]) (o17 : OpIn ops 17 (some 100) (.call { callee := .value (.func 15), args := #[.tmp 97, .tmp 99], argTypes := #[33, 9] }) (some (9, false)) [9, 14, 16]) (o18 : OpIn ops 18 (some 101) (.binOp .neq 3 (.tmp 96) (.tmp 100) 3) (some (9, false)) [9, 13, 17]) (o19 : OpIn ops 19 (some 102) (.pick (.tmp 92) (.const (.bool true)) (.tmp 101)) none [9, 18]) (o20 : OpIn ops 20 (some 103) (.move (.tmp 102)) none [19]) (o21 : OpIn ops 21 (some 104) (.move (.tmp 9)) (some (20, false)) [20]) (o22 : OpIn ops 22 (some 105) (.call { callee := .value (.func 17), args := #[.tmp 104], argTypes := #[31] }) (some (20, false)) [20, 21]) (o23 : OpIn ops 23 (some 106) (.move (.tmp 10)) (some (20, false)) [20]) (o24 : OpIn ops 24 (some 107) (.call { callee := .value (.func 18), args := #[.tmp 106], argTypes := #[33] }) (some (20, false)) [20, 23]) (o25 : OpIn ops 25 (some 108) (.call { callee := .value (.func 16), args := #[.tmp 105, .tmp 107], argTypes := #[46, 46] }) (some (20, false)) [20, 22, 24]) (o26 : OpIn ops 26 (some 109) (.unOp .not 4 (.tmp 108)) (some (20, false)) [20, 25]) (o27 : OpIn ops 27 (some 110) (.pick (.tmp 103) (.const (.bool true)) (.tmp 109)) none [20, 26]) (o28 : OpIn ops 28 (some 111) (.move (.tmp 110)) none [27]) (o29 : OpIn ops 29 (some 112) (.move (.tmp 9)) (some (28, false)) [28]) (o30 : OpIn ops 30 (some 113) (.call { callee := .value (.func 19), args := #[.tmp 112], argTypes := #[31] }) (some (28, false)) [28, 29]) (o31 : OpIn ops 31 (some 114) (.move (.tmp 10)) (some (28, false)) [28]) (o32 : OpIn ops 32 (some 115) (.call { callee := .value (.func 20), args := #[.tmp 114], argTypes := #[33] }) (some (28, false)) [28, 31]) (o33 : OpIn ops 33 (some 116) (.binOp .neq 3 (.tmp 113) (.tmp 115) 3) (some (28, false)) [28, 30, 32]) (o34 : OpIn ops 34 (some 117) (.pick (.tmp 111) (.const (.bool true)) (.tmp 116)) none [28, 33]) (o35 : OpIn ops 35 (some 118) (.move (.tmp 117)) none [34]) (o36 : OpIn ops 36 (some 119) (.move (.tmp 5)) (some (35, false)) [35]) (o37 : OpIn ops 37 (some 120) (.move (.tmp 7)) (some (35, false)) [35]) (o38 : OpIn ops 38 (some 121) (.call { callee := .value (.func 21), args := #[.tmp 119, .tmp 120], argTypes := #[24, 28] }) (some (35, false)) [35, 36, 37]) (o39 : OpIn ops 39 (some 122) (.unOp .not 4 (.tmp 121)) (some (35, false)) [35, 38]) (o40 : OpIn ops 40 (some 123) (.pick (.tmp 118) (.const (.bool true)) (.tmp 122)) none [35, 39])
    (hS : S w0.drew)
    (x2 : ∀ w, S w → Calls Try.prog 13 #[.slice a1 l1 c1, .slice a2 l2 c2] w fun e w' => e = .returned (.bool true) ∧ Below w.heap.size w w' ∧ S w')
    (x7 : ∀ w, (binOp .neq 25 (.int .i64 E) (.int .i64 E)).run Try.prog w = .ok (.bool false) w)
    (x11 : ∀ w, (Instr.fieldAt 39 (.pointer (some ⟨ob, 0, none⟩)) 1).run Try.prog w = .ok (.pointer (some ⟨ob, 1, none⟩)) w)
    (x12 : ∀ w, S w → (Instr.loadAt 9 (.pointer (some ⟨ob, 1, none⟩))).run Try.prog w = .ok (.string t) w)
    (x13 : ∀ w, S w → Calls Try.prog 14 #[.pointer (some ⟨x, 0, none⟩), .string t] w fun e w' => e = .returned (.int .i64 z) ∧ Below w.heap.size w w' ∧ S w')
    (x15 : ∀ w, (Instr.fieldAt 39 (.pointer (some ⟨ob, 0, none⟩)) 1).run Try.prog w = .ok (.pointer (some ⟨ob, 1, none⟩)) w)
    (x16 : ∀ w, S w → (Instr.loadAt 9 (.pointer (some ⟨ob, 1, none⟩))).run Try.prog w = .ok (.string t) w)
    (x17 : ∀ w, S w → Calls Try.prog 15 #[.pointer (some ⟨y, 0, none⟩), .string t] w fun e w' => e = .returned (.int .i64 z) ∧ Below w.heap.size w w' ∧ S w')
    (x18 : ∀ w, (binOp .neq 3 (.int .i64 z) (.int .i64 z)).run Try.prog w = .ok (.bool false) w)
    (x22 : ∀ w, S w → Calls Try.prog 17 #[.pointer (some ⟨x, 0, none⟩)] w fun e w' => ∃ ra rl rc, e = .returned (.slice ra rl rc) ∧ RowT 0 w' ra rl rc ts ∧ Below w.heap.size w w' ∧ S w')
    (x24 : ∀ w, S w → Calls Try.prog 18 #[.pointer (some ⟨y, 0, none⟩)] w fun e w' => ∃ ra rl rc, e = .returned (.slice ra rl rc) ∧ RowT 0 w' ra rl rc ts ∧ Below w.heap.size w w' ∧ S w')
    (x25 : ∀ w, S w → ∀ ra rl rc rb rm rd, RowT 0 w ra rl rc ts → RowT 0 w rb rm rd ts → Calls Try.prog 16 #[.slice ra rl rc, .slice rb rm rd] w fun e w' => e = .returned (.bool true) ∧ Below w.heap.size w w' ∧ S w')
    (x30 : ∀ w, S w → Calls Try.prog 19 #[.pointer (some ⟨x, 0, none⟩)] w fun e w' => e = .returned (.int .i64 r) ∧ Below w.heap.size w w' ∧ S w')
    (x32 : ∀ w, S w → Calls Try.prog 20 #[.pointer (some ⟨y, 0, none⟩)] w fun e w' => e = .returned (.int .i64 r) ∧ Below w.heap.size w w' ∧ S w')
    (x33 : ∀ w, (binOp .neq 3 (.int .i64 r) (.int .i64 r)).run Try.prog w = .ok (.bool false) w)
    (x38 : ∀ w, S w → Calls Try.prog 21 #[.pointer (some ⟨b, 0, none⟩), .pointer (some ⟨p, 0, none⟩)] w fun e w' => e = .returned (.bool true) ∧ Below w.heap.size w w' ∧ S w')
    (u5 : a0.tmps.getD 5 undef = .pointer (some ⟨b, 0, none⟩))
    (u7 : a0.tmps.getD 7 undef = .pointer (some ⟨p, 0, none⟩))
    (u9 : a0.tmps.getD 9 undef = .pointer (some ⟨x, 0, none⟩))
    (u10 : a0.tmps.getD 10 undef = .pointer (some ⟨y, 0, none⟩))
    (u12 : a0.tmps.getD 12 undef = .pointer (some ⟨ob, 0, none⟩))
    (u13 : a0.tmps.getD 13 undef = .slice a1 l1 c1)
    (u14 : a0.tmps.getD 14 undef = .int .i64 E)
    (u15 : a0.tmps.getD 15 undef = .slice a2 l2 c2)
    (u16 : a0.tmps.getD 16 undef = .int .i64 E)
    (hs : 124 ≤ a0.tmps.size)
    (fin : ∀ a w, a.tmps.size = a0.tmps.size → a.defers = a0.defers → (∀ s, (∀ i, i < 41 → seD i ≠ some s) → a.tmps.getD s undef = a0.tmps.getD s undef) → S w → (∀ i d, i < 41 → seD i = some d → seF x y b p ob l1 c1 l2 c2 z r E t a1 a2 ts i (a.tmps.getD d undef) w) → Q .normal a w) : (Code.region id ops true).wp Try.prog Q a0 w0 := by
  have r13 : ∀ args w, (callFunc 13 args).run Try.prog w = .ok (.enter 13 args) w := enters_of Try.func13 (by kernel_rfl) rfl
  have r14 : ∀ args w, (callFunc 14 args).run Try.prog w = .ok (.enter 14 args) w := enters_of Try.func14 (by kernel_rfl) rfl
  have r15 : ∀ args w, (callFunc 15 args).run Try.prog w = .ok (.enter 15 args) w := enters_of Try.func15 (by kernel_rfl) rfl
  have r16 : ∀ args w, (callFunc 16 args).run Try.prog w = .ok (.enter 16 args) w := enters_of Try.func16 (by kernel_rfl) rfl
  have r17 : ∀ args w, (callFunc 17 args).run Try.prog w = .ok (.enter 17 args) w := enters_of Try.func17 (by kernel_rfl) rfl
  have r18 : ∀ args w, (callFunc 18 args).run Try.prog w = .ok (.enter 18 args) w := enters_of Try.func18 (by kernel_rfl) rfl
  have r19 : ∀ args w, (callFunc 19 args).run Try.prog w = .ok (.enter 19 args) w := enters_of Try.func19 (by kernel_rfl) rfl
  have r20 : ∀ args w, (callFunc 20 args).run Try.prog w = .ok (.enter 20 args) w := enters_of Try.func20 (by kernel_rfl) rfl
  have r21 : ∀ args w, (callFunc 21 args).run Try.prog w = .ok (.enter 21 args) w := enters_of Try.func21 (by kernel_rfl) rfl
  refine wp_region_inv2 (by kernel_rfl) hlow (Inv 41 seD a0 (fun _ _ w => S w) (fun _ => seF x y b p ob l1 c1 l2 c2 z r E t a1 a2 ts)) (Inv.start hS) ?_ ?_
  · intro l i o a w ho hl hcl hdep hI
    have hi : i < 41 := by rw [← hsz]; exact (Array.getElem?_eq_some_iff.1 ho).1
    have ev : ∀ (s : Nat), a.eval (.tmp s) = a.tmps.getD s undef := fun _ => rfl
    have evf : ∀ f, a.eval (.func f) = .func (.func f) #[] #[] := fun _ => rfl
    have evc : ∀ c : Value, a.eval (.const c) = c := fun _ => rfl
    have inj : ∀ d, seD i = some d → ∀ j d', j < 41 → seD j = some d' → j ≠ i → d' ≠ d := fun d hd j d' hj hd' hne e => hne (seD_inj j hj i hi (by rw [hd', hd, e]) (by rw [hd']; simp))
    have kp : ∀ s, (∀ i, i < 41 → seD i ≠ some s) → a.tmps.getD s undef = a0.tmps.getD s undef := hI.kept
    have hw : S w := hI.world
    have go : ∀ {d : Nat} {v : Value} {w' : World}, seD i = some d → Below w.heap.size w w' → S w' → seF x y b p ob l1 c1 l2 c2 z r E t a1 a2 ts i v w' → Inv 41 seD a0 (fun _ _ w => S w) (fun _ => seF x y b p ob l1 c1 l2 c2 z r E t a1 a2 ts) (fun j => l j || j == i) (a.put (some d) v) w' := by
      intro d v w' hD hb hS' hF
      exact hI.put hi hD (Nat.lt_of_lt_of_le (seD_lt i hi d hD) hs) (inj d hD) hS' hF (fun j u _ _ _ hf => seF_below hf hb)
    rcases (show i = 0 ∨ i = 1 ∨ i = 2 ∨ i = 3 ∨ i = 4 ∨ i = 5 ∨ i = 6 ∨ i = 7 ∨ i = 8 ∨ i = 9 ∨ i = 10 ∨ i = 11 ∨ i = 12 ∨ i = 13 ∨ i = 14 ∨ i = 15 ∨ i = 16 ∨ i = 17 ∨ i = 18 ∨ i = 19 ∨ i = 20 ∨ i = 21 ∨ i = 22 ∨ i = 23 ∨ i = 24 ∨ i = 25 ∨ i = 26 ∨ i = 27 ∨ i = 28 ∨ i = 29 ∨ i = 30 ∨ i = 31 ∨ i = 32 ∨ i = 33 ∨ i = 34 ∨ i = 35 ∨ i = 36 ∨ i = 37 ∨ i = 38 ∨ i = 39 ∨ i = 40 by omega) with rfl | rfl | rfl | rfl | rfl | rfl | rfl | rfl | rfl | rfl | rfl | rfl | rfl | rfl | rfl | rfl | rfl | rfl | rfl | rfl | rfl | rfl | rfl | rfl | rfl | rfl | rfl | rfl | rfl | rfl | rfl | rfl | rfl | rfl | rfl | rfl | rfl | rfl | rfl | rfl | rfl
    · obtain ⟨o', e1, e2, e3, e4, e5⟩ := o0
      obtain rfl := Option.some.inj (ho.symm.trans e1)
      have dp := dep_of' e5 hdep
      have U13 : a.tmps.getD 13 undef = .slice a1 l1 c1 := (kp 13 (by decide)).trans u13
      exact wpOp_value (v := .slice a1 l1 c1) (w' := w) ho e4 (by simp [execOp, e3, ev, evc, U13]) (by rw [e2]; exact go rfl (Below.refl _ _) hw rfl)
    · obtain ⟨o', e1, e2, e3, e4, e5⟩ := o1
      obtain rfl := Option.some.inj (ho.symm.trans e1)
      have dp := dep_of' e5 hdep
      have U15 : a.tmps.getD 15 undef = .slice a2 l2 c2 := (kp 15 (by decide)).trans u15
      exact wpOp_value (v := .slice a2 l2 c2) (w' := w) ho e4 (by simp [execOp, e3, ev, evc, U15]) (by rw [e2]; exact go rfl (Below.refl _ _) hw rfl)
    · obtain ⟨o', e1, e2, e3, e4, e5⟩ := o2
      obtain rfl := Option.some.inj (ho.symm.trans e1)
      have dp := dep_of' e5 hdep
      have V0 : a.tmps.getD 83 undef = .slice a1 l1 c1 := hI.val 0 83 (by decide) rfl (dp 0 (by decide))
      have V1 : a.tmps.getD 84 undef = .slice a2 l2 c2 := hI.val 1 84 (by decide) rfl (dp 1 (by decide))
      refine wpOp_call (f := 13) (args := #[.slice a1 l1 c1, .slice a2 l2 c2]) ho e4 (by simp [execOp, e3, resolve, invoke, Deferred.ofValue, r13, ev, evf, evc, V0, V1]) ((x2 w hw).mono ?_)
      rintro e W' ⟨rfl, hb5, hs5⟩
      refine ⟨_, rfl, ?_⟩
      rw [e2]
      exact go rfl hb5 hs5 rfl
    · obtain ⟨o', e1, e2, e3, e4, e5⟩ := o3
      obtain rfl := Option.some.inj (ho.symm.trans e1)
      have dp := dep_of' e5 hdep
      have V2 : a.tmps.getD 85 undef = .bool true := hI.val 2 85 (by decide) rfl (dp 2 (by decide))
      exact wpOp_value (v := .bool false) (w' := w) ho e4 (by simp [execOp, e3, ev, evc, V2, Op.unary]) (by rw [e2]; exact go rfl (Below.refl _ _) hw rfl)
    · obtain ⟨o', e1, e2, e3, e4, e5⟩ := o4
      obtain rfl := Option.some.inj (ho.symm.trans e1)
      have dp := dep_of' e5 hdep
      have V3 : a.tmps.getD 86 undef = .bool false := hI.val 3 86 (by decide) rfl (dp 3 (by decide))
      exact wpOp_value (v := .bool false) (w' := w) ho e4 (by simp [execOp, e3, ev, evc, V3]) (by rw [e2]; exact go rfl (Below.refl _ _) hw rfl)
    · obtain ⟨o', e1, e2, e3, e4, e5⟩ := o5
      obtain rfl := Option.some.inj (ho.symm.trans e1)
      have dp := dep_of' e5 hdep
      have V4 : a.tmps.getD 87 undef = .bool false := hI.val 4 87 (by decide) rfl (dp 4 (by decide))
      have U14 : a.tmps.getD 14 undef = .int .i64 E := (kp 14 (by decide)).trans u14
      obtain ⟨og, g1, g2, -, -, -⟩ := o4
      exact wpOp_value_b (v := .int .i64 E) (w' := w) ho e4 g1 g2 (by rw [hI.size]; exact Nat.lt_of_lt_of_le (by decide) hs) V4 (by simp [execOp, e3, ev, evc, V4, U14]) (by rw [e2]; exact go rfl (Below.refl _ _) hw rfl)
    · obtain ⟨o', e1, e2, e3, e4, e5⟩ := o6
      obtain rfl := Option.some.inj (ho.symm.trans e1)
      have dp := dep_of' e5 hdep
      have V4 : a.tmps.getD 87 undef = .bool false := hI.val 4 87 (by decide) rfl (dp 4 (by decide))
      have U16 : a.tmps.getD 16 undef = .int .i64 E := (kp 16 (by decide)).trans u16
      obtain ⟨og, g1, g2, -, -, -⟩ := o4
      exact wpOp_value_b (v := .int .i64 E) (w' := w) ho e4 g1 g2 (by rw [hI.size]; exact Nat.lt_of_lt_of_le (by decide) hs) V4 (by simp [execOp, e3, ev, evc, V4, U16]) (by rw [e2]; exact go rfl (Below.refl _ _) hw rfl)
    · obtain ⟨o', e1, e2, e3, e4, e5⟩ := o7
      obtain rfl := Option.some.inj (ho.symm.trans e1)
      have dp := dep_of' e5 hdep
      have V4 : a.tmps.getD 87 undef = .bool false := hI.val 4 87 (by decide) rfl (dp 4 (by decide))
      have V5 : a.tmps.getD 88 undef = .int .i64 E := hI.val 5 88 (by decide) rfl (dp 5 (by decide))
      have V6 : a.tmps.getD 89 undef = .int .i64 E := hI.val 6 89 (by decide) rfl (dp 6 (by decide))
      obtain ⟨og, g1, g2, -, -, -⟩ := o4
      exact wpOp_value_b (v := .bool false) (w' := w) ho e4 g1 g2 (by rw [hI.size]; exact Nat.lt_of_lt_of_le (by decide) hs) V4 (by simp [execOp, e3, ev, evc, V4, V5, V6, x7 w, eqGuard]) (by rw [e2]; exact go rfl (Below.refl _ _) hw rfl)
    · obtain ⟨o', e1, e2, e3, e4, e5⟩ := o8
      obtain rfl := Option.some.inj (ho.symm.trans e1)
      have dp := dep_of' e5 hdep
      have V4 : a.tmps.getD 87 undef = .bool false := hI.val 4 87 (by decide) rfl (dp 4 (by decide))
      have V7 : a.tmps.getD 90 undef = .bool false := hI.val 7 90 (by decide) rfl (dp 7 (by decide))
      exact wpOp_value (v := .bool false) (w' := w) ho e4 (by simp [execOp, e3, ev, evc, V4, V7, asBool]) (by rw [e2]; exact go rfl (Below.refl _ _) hw rfl)
    · obtain ⟨o', e1, e2, e3, e4, e5⟩ := o9
      obtain rfl := Option.some.inj (ho.symm.trans e1)
      have dp := dep_of' e5 hdep
      have V8 : a.tmps.getD 91 undef = .bool false := hI.val 8 91 (by decide) rfl (dp 8 (by decide))
      exact wpOp_value (v := .bool false) (w' := w) ho e4 (by simp [execOp, e3, ev, evc, V8]) (by rw [e2]; exact go rfl (Below.refl _ _) hw rfl)
    · obtain ⟨o', e1, e2, e3, e4, e5⟩ := o10
      obtain rfl := Option.some.inj (ho.symm.trans e1)
      have dp := dep_of' e5 hdep
      have V9 : a.tmps.getD 92 undef = .bool false := hI.val 9 92 (by decide) rfl (dp 9 (by decide))
      have U9 : a.tmps.getD 9 undef = .pointer (some ⟨x, 0, none⟩) := (kp 9 (by decide)).trans u9
      obtain ⟨og, g1, g2, -, -, -⟩ := o9
      exact wpOp_value_b (v := .pointer (some ⟨x, 0, none⟩)) (w' := w) ho e4 g1 g2 (by rw [hI.size]; exact Nat.lt_of_lt_of_le (by decide) hs) V9 (by simp [execOp, e3, ev, evc, V9, U9]) (by rw [e2]; exact go rfl (Below.refl _ _) hw rfl)
    · obtain ⟨o', e1, e2, e3, e4, e5⟩ := o11
      obtain rfl := Option.some.inj (ho.symm.trans e1)
      have dp := dep_of' e5 hdep
      have V9 : a.tmps.getD 92 undef = .bool false := hI.val 9 92 (by decide) rfl (dp 9 (by decide))
      have U12 : a.tmps.getD 12 undef = .pointer (some ⟨ob, 0, none⟩) := (kp 12 (by decide)).trans u12
      obtain ⟨og, g1, g2, -, -, -⟩ := o9
      exact wpOp_value_b (v := .pointer (some ⟨ob, 1, none⟩)) (w' := w) ho e4 g1 g2 (by rw [hI.size]; exact Nat.lt_of_lt_of_le (by decide) hs) V9 (by simp [execOp, e3, ev, evc, V9, U12, x11 w]) (by rw [e2]; exact go rfl (Below.refl _ _) hw rfl)
    · obtain ⟨o', e1, e2, e3, e4, e5⟩ := o12
      obtain rfl := Option.some.inj (ho.symm.trans e1)
      have dp := dep_of' e5 hdep
      have V9 : a.tmps.getD 92 undef = .bool false := hI.val 9 92 (by decide) rfl (dp 9 (by decide))
      have V11 : a.tmps.getD 94 undef = .pointer (some ⟨ob, 1, none⟩) := hI.val 11 94 (by decide) rfl (dp 11 (by decide))
      obtain ⟨og, g1, g2, -, -, -⟩ := o9
      exact wpOp_value_b (v := .string t) (w' := w) ho e4 g1 g2 (by rw [hI.size]; exact Nat.lt_of_lt_of_le (by decide) hs) V9 (by simp [execOp, e3, ev, evc, V9, V11, x12 w hw]) (by rw [e2]; exact go rfl (Below.refl _ _) hw rfl)
    · obtain ⟨o', e1, e2, e3, e4, e5⟩ := o13
      obtain rfl := Option.some.inj (ho.symm.trans e1)
      have dp := dep_of' e5 hdep
      have V9 : a.tmps.getD 92 undef = .bool false := hI.val 9 92 (by decide) rfl (dp 9 (by decide))
      have V10 : a.tmps.getD 93 undef = .pointer (some ⟨x, 0, none⟩) := hI.val 10 93 (by decide) rfl (dp 10 (by decide))
      have V12 : a.tmps.getD 95 undef = .string t := hI.val 12 95 (by decide) rfl (dp 12 (by decide))
      obtain ⟨og, g1, g2, -, -, -⟩ := o9
      refine wpOp_call_b (f := 14) (args := #[.pointer (some ⟨x, 0, none⟩), .string t]) ho e4 g1 g2 (by rw [hI.size]; exact Nat.lt_of_lt_of_le (by decide) hs) V9 (by simp [execOp, e3, resolve, invoke, Deferred.ofValue, r14, ev, evf, evc, V9, V10, V12]) ((x13 w hw).mono ?_)
      rintro e W' ⟨rfl, hb5, hs5⟩
      refine ⟨_, rfl, ?_⟩
      rw [e2]
      exact go rfl hb5 hs5 rfl
    · obtain ⟨o', e1, e2, e3, e4, e5⟩ := o14
      obtain rfl := Option.some.inj (ho.symm.trans e1)
      have dp := dep_of' e5 hdep
      have V9 : a.tmps.getD 92 undef = .bool false := hI.val 9 92 (by decide) rfl (dp 9 (by decide))
      have U10 : a.tmps.getD 10 undef = .pointer (some ⟨y, 0, none⟩) := (kp 10 (by decide)).trans u10
      obtain ⟨og, g1, g2, -, -, -⟩ := o9
      exact wpOp_value_b (v := .pointer (some ⟨y, 0, none⟩)) (w' := w) ho e4 g1 g2 (by rw [hI.size]; exact Nat.lt_of_lt_of_le (by decide) hs) V9 (by simp [execOp, e3, ev, evc, V9, U10]) (by rw [e2]; exact go rfl (Below.refl _ _) hw rfl)
    · obtain ⟨o', e1, e2, e3, e4, e5⟩ := o15
      obtain rfl := Option.some.inj (ho.symm.trans e1)
      have dp := dep_of' e5 hdep
      have V9 : a.tmps.getD 92 undef = .bool false := hI.val 9 92 (by decide) rfl (dp 9 (by decide))
      have U12 : a.tmps.getD 12 undef = .pointer (some ⟨ob, 0, none⟩) := (kp 12 (by decide)).trans u12
      obtain ⟨og, g1, g2, -, -, -⟩ := o9
      exact wpOp_value_b (v := .pointer (some ⟨ob, 1, none⟩)) (w' := w) ho e4 g1 g2 (by rw [hI.size]; exact Nat.lt_of_lt_of_le (by decide) hs) V9 (by simp [execOp, e3, ev, evc, V9, U12, x15 w]) (by rw [e2]; exact go rfl (Below.refl _ _) hw rfl)
    · obtain ⟨o', e1, e2, e3, e4, e5⟩ := o16
      obtain rfl := Option.some.inj (ho.symm.trans e1)
      have dp := dep_of' e5 hdep
      have V9 : a.tmps.getD 92 undef = .bool false := hI.val 9 92 (by decide) rfl (dp 9 (by decide))
      have V15 : a.tmps.getD 98 undef = .pointer (some ⟨ob, 1, none⟩) := hI.val 15 98 (by decide) rfl (dp 15 (by decide))
      obtain ⟨og, g1, g2, -, -, -⟩ := o9
      exact wpOp_value_b (v := .string t) (w' := w) ho e4 g1 g2 (by rw [hI.size]; exact Nat.lt_of_lt_of_le (by decide) hs) V9 (by simp [execOp, e3, ev, evc, V9, V15, x16 w hw]) (by rw [e2]; exact go rfl (Below.refl _ _) hw rfl)
    · obtain ⟨o', e1, e2, e3, e4, e5⟩ := o17
      obtain rfl := Option.some.inj (ho.symm.trans e1)
      have dp := dep_of' e5 hdep
      have V9 : a.tmps.getD 92 undef = .bool false := hI.val 9 92 (by decide) rfl (dp 9 (by decide))
      have V14 : a.tmps.getD 97 undef = .pointer (some ⟨y, 0, none⟩) := hI.val 14 97 (by decide) rfl (dp 14 (by decide))
      have V16 : a.tmps.getD 99 undef = .string t := hI.val 16 99 (by decide) rfl (dp 16 (by decide))
      obtain ⟨og, g1, g2, -, -, -⟩ := o9
      refine wpOp_call_b (f := 15) (args := #[.pointer (some ⟨y, 0, none⟩), .string t]) ho e4 g1 g2 (by rw [hI.size]; exact Nat.lt_of_lt_of_le (by decide) hs) V9 (by simp [execOp, e3, resolve, invoke, Deferred.ofValue, r15, ev, evf, evc, V9, V14, V16]) ((x17 w hw).mono ?_)
      rintro e W' ⟨rfl, hb5, hs5⟩
      refine ⟨_, rfl, ?_⟩
      rw [e2]
      exact go rfl hb5 hs5 rfl
    · obtain ⟨o', e1, e2, e3, e4, e5⟩ := o18
      obtain rfl := Option.some.inj (ho.symm.trans e1)
      have dp := dep_of' e5 hdep
      have V9 : a.tmps.getD 92 undef = .bool false := hI.val 9 92 (by decide) rfl (dp 9 (by decide))
      have V13 : a.tmps.getD 96 undef = .int .i64 z := hI.val 13 96 (by decide) rfl (dp 13 (by decide))
      have V17 : a.tmps.getD 100 undef = .int .i64 z := hI.val 17 100 (by decide) rfl (dp 17 (by decide))
      obtain ⟨og, g1, g2, -, -, -⟩ := o9
      exact wpOp_value_b (v := .bool false) (w' := w) ho e4 g1 g2 (by rw [hI.size]; exact Nat.lt_of_lt_of_le (by decide) hs) V9 (by simp [execOp, e3, ev, evc, V9, V13, V17, x18 w, eqGuard]) (by rw [e2]; exact go rfl (Below.refl _ _) hw rfl)
    · obtain ⟨o', e1, e2, e3, e4, e5⟩ := o19
      obtain rfl := Option.some.inj (ho.symm.trans e1)
      have dp := dep_of' e5 hdep
      have V9 : a.tmps.getD 92 undef = .bool false := hI.val 9 92 (by decide) rfl (dp 9 (by decide))
      have V18 : a.tmps.getD 101 undef = .bool false := hI.val 18 101 (by decide) rfl (dp 18 (by decide))
      exact wpOp_value (v := .bool false) (w' := w) ho e4 (by simp [execOp, e3, ev, evc, V9, V18, asBool]) (by rw [e2]; exact go rfl (Below.refl _ _) hw rfl)
    · obtain ⟨o', e1, e2, e3, e4, e5⟩ := o20
      obtain rfl := Option.some.inj (ho.symm.trans e1)
      have dp := dep_of' e5 hdep
      have V19 : a.tmps.getD 102 undef = .bool false := hI.val 19 102 (by decide) rfl (dp 19 (by decide))
      exact wpOp_value (v := .bool false) (w' := w) ho e4 (by simp [execOp, e3, ev, evc, V19]) (by rw [e2]; exact go rfl (Below.refl _ _) hw rfl)
    · obtain ⟨o', e1, e2, e3, e4, e5⟩ := o21
      obtain rfl := Option.some.inj (ho.symm.trans e1)
      have dp := dep_of' e5 hdep
      have V20 : a.tmps.getD 103 undef = .bool false := hI.val 20 103 (by decide) rfl (dp 20 (by decide))
      have U9 : a.tmps.getD 9 undef = .pointer (some ⟨x, 0, none⟩) := (kp 9 (by decide)).trans u9
      obtain ⟨og, g1, g2, -, -, -⟩ := o20
      exact wpOp_value_b (v := .pointer (some ⟨x, 0, none⟩)) (w' := w) ho e4 g1 g2 (by rw [hI.size]; exact Nat.lt_of_lt_of_le (by decide) hs) V20 (by simp [execOp, e3, ev, evc, V20, U9]) (by rw [e2]; exact go rfl (Below.refl _ _) hw rfl)
    · obtain ⟨o', e1, e2, e3, e4, e5⟩ := o22
      obtain rfl := Option.some.inj (ho.symm.trans e1)
      have dp := dep_of' e5 hdep
      have V20 : a.tmps.getD 103 undef = .bool false := hI.val 20 103 (by decide) rfl (dp 20 (by decide))
      have V21 : a.tmps.getD 104 undef = .pointer (some ⟨x, 0, none⟩) := hI.val 21 104 (by decide) rfl (dp 21 (by decide))
      obtain ⟨og, g1, g2, -, -, -⟩ := o20
      refine wpOp_call_b (f := 17) (args := #[.pointer (some ⟨x, 0, none⟩)]) ho e4 g1 g2 (by rw [hI.size]; exact Nat.lt_of_lt_of_le (by decide) hs) V20 (by simp [execOp, e3, resolve, invoke, Deferred.ofValue, r17, ev, evf, evc, V20, V21]) ((x22 w hw).mono ?_)
      rintro e W' ⟨ra, rl, rc, rfl, hr6, hb6, hs6⟩
      refine ⟨_, rfl, ?_⟩
      rw [e2]
      exact go rfl hb6 hs6 ⟨ra, rl, rc, rfl, hr6⟩
    · obtain ⟨o', e1, e2, e3, e4, e5⟩ := o23
      obtain rfl := Option.some.inj (ho.symm.trans e1)
      have dp := dep_of' e5 hdep
      have V20 : a.tmps.getD 103 undef = .bool false := hI.val 20 103 (by decide) rfl (dp 20 (by decide))
      have U10 : a.tmps.getD 10 undef = .pointer (some ⟨y, 0, none⟩) := (kp 10 (by decide)).trans u10
      obtain ⟨og, g1, g2, -, -, -⟩ := o20
      exact wpOp_value_b (v := .pointer (some ⟨y, 0, none⟩)) (w' := w) ho e4 g1 g2 (by rw [hI.size]; exact Nat.lt_of_lt_of_le (by decide) hs) V20 (by simp [execOp, e3, ev, evc, V20, U10]) (by rw [e2]; exact go rfl (Below.refl _ _) hw rfl)
    · obtain ⟨o', e1, e2, e3, e4, e5⟩ := o24
      obtain rfl := Option.some.inj (ho.symm.trans e1)
      have dp := dep_of' e5 hdep
      have V20 : a.tmps.getD 103 undef = .bool false := hI.val 20 103 (by decide) rfl (dp 20 (by decide))
      have V23 : a.tmps.getD 106 undef = .pointer (some ⟨y, 0, none⟩) := hI.val 23 106 (by decide) rfl (dp 23 (by decide))
      obtain ⟨og, g1, g2, -, -, -⟩ := o20
      refine wpOp_call_b (f := 18) (args := #[.pointer (some ⟨y, 0, none⟩)]) ho e4 g1 g2 (by rw [hI.size]; exact Nat.lt_of_lt_of_le (by decide) hs) V20 (by simp [execOp, e3, resolve, invoke, Deferred.ofValue, r18, ev, evf, evc, V20, V23]) ((x24 w hw).mono ?_)
      rintro e W' ⟨ra, rl, rc, rfl, hr6, hb6, hs6⟩
      refine ⟨_, rfl, ?_⟩
      rw [e2]
      exact go rfl hb6 hs6 ⟨ra, rl, rc, rfl, hr6⟩
    · obtain ⟨o', e1, e2, e3, e4, e5⟩ := o25
      obtain rfl := Option.some.inj (ho.symm.trans e1)
      have dp := dep_of' e5 hdep
      have V20 : a.tmps.getD 103 undef = .bool false := hI.val 20 103 (by decide) rfl (dp 20 (by decide))
      obtain ⟨ra22, rl22, rc22, V22, f22⟩ : ∃ ra rl rc, a.tmps.getD 105 undef = .slice ra rl rc ∧ RowT 0 w ra rl rc ts := hI.val 22 105 (by decide) rfl (dp 22 (by decide))
      obtain ⟨ra24, rl24, rc24, V24, f24⟩ : ∃ ra rl rc, a.tmps.getD 107 undef = .slice ra rl rc ∧ RowT 0 w ra rl rc ts := hI.val 24 107 (by decide) rfl (dp 24 (by decide))
      obtain ⟨og, g1, g2, -, -, -⟩ := o20
      refine wpOp_call_b (f := 16) (args := #[.slice ra22 rl22 rc22, .slice ra24 rl24 rc24]) ho e4 g1 g2 (by rw [hI.size]; exact Nat.lt_of_lt_of_le (by decide) hs) V20 (by simp [execOp, e3, resolve, invoke, Deferred.ofValue, r16, ev, evf, evc, V20, V22, V24]) ((x25 w hw ra22 rl22 rc22 ra24 rl24 rc24 f22 f24).mono ?_)
      rintro e W' ⟨rfl, hb5, hs5⟩
      refine ⟨_, rfl, ?_⟩
      rw [e2]
      exact go rfl hb5 hs5 rfl
    · obtain ⟨o', e1, e2, e3, e4, e5⟩ := o26
      obtain rfl := Option.some.inj (ho.symm.trans e1)
      have dp := dep_of' e5 hdep
      have V20 : a.tmps.getD 103 undef = .bool false := hI.val 20 103 (by decide) rfl (dp 20 (by decide))
      have V25 : a.tmps.getD 108 undef = .bool true := hI.val 25 108 (by decide) rfl (dp 25 (by decide))
      obtain ⟨og, g1, g2, -, -, -⟩ := o20
      exact wpOp_value_b (v := .bool false) (w' := w) ho e4 g1 g2 (by rw [hI.size]; exact Nat.lt_of_lt_of_le (by decide) hs) V20 (by simp [execOp, e3, ev, evc, V20, V25, Op.unary]) (by rw [e2]; exact go rfl (Below.refl _ _) hw rfl)
    · obtain ⟨o', e1, e2, e3, e4, e5⟩ := o27
      obtain rfl := Option.some.inj (ho.symm.trans e1)
      have dp := dep_of' e5 hdep
      have V20 : a.tmps.getD 103 undef = .bool false := hI.val 20 103 (by decide) rfl (dp 20 (by decide))
      have V26 : a.tmps.getD 109 undef = .bool false := hI.val 26 109 (by decide) rfl (dp 26 (by decide))
      exact wpOp_value (v := .bool false) (w' := w) ho e4 (by simp [execOp, e3, ev, evc, V20, V26, asBool]) (by rw [e2]; exact go rfl (Below.refl _ _) hw rfl)
    · obtain ⟨o', e1, e2, e3, e4, e5⟩ := o28
      obtain rfl := Option.some.inj (ho.symm.trans e1)
      have dp := dep_of' e5 hdep
      have V27 : a.tmps.getD 110 undef = .bool false := hI.val 27 110 (by decide) rfl (dp 27 (by decide))
      exact wpOp_value (v := .bool false) (w' := w) ho e4 (by simp [execOp, e3, ev, evc, V27]) (by rw [e2]; exact go rfl (Below.refl _ _) hw rfl)
    · obtain ⟨o', e1, e2, e3, e4, e5⟩ := o29
      obtain rfl := Option.some.inj (ho.symm.trans e1)
      have dp := dep_of' e5 hdep
      have V28 : a.tmps.getD 111 undef = .bool false := hI.val 28 111 (by decide) rfl (dp 28 (by decide))
      have U9 : a.tmps.getD 9 undef = .pointer (some ⟨x, 0, none⟩) := (kp 9 (by decide)).trans u9
      obtain ⟨og, g1, g2, -, -, -⟩ := o28
      exact wpOp_value_b (v := .pointer (some ⟨x, 0, none⟩)) (w' := w) ho e4 g1 g2 (by rw [hI.size]; exact Nat.lt_of_lt_of_le (by decide) hs) V28 (by simp [execOp, e3, ev, evc, V28, U9]) (by rw [e2]; exact go rfl (Below.refl _ _) hw rfl)
    · obtain ⟨o', e1, e2, e3, e4, e5⟩ := o30
      obtain rfl := Option.some.inj (ho.symm.trans e1)
      have dp := dep_of' e5 hdep
      have V28 : a.tmps.getD 111 undef = .bool false := hI.val 28 111 (by decide) rfl (dp 28 (by decide))
      have V29 : a.tmps.getD 112 undef = .pointer (some ⟨x, 0, none⟩) := hI.val 29 112 (by decide) rfl (dp 29 (by decide))
      obtain ⟨og, g1, g2, -, -, -⟩ := o28
      refine wpOp_call_b (f := 19) (args := #[.pointer (some ⟨x, 0, none⟩)]) ho e4 g1 g2 (by rw [hI.size]; exact Nat.lt_of_lt_of_le (by decide) hs) V28 (by simp [execOp, e3, resolve, invoke, Deferred.ofValue, r19, ev, evf, evc, V28, V29]) ((x30 w hw).mono ?_)
      rintro e W' ⟨rfl, hb5, hs5⟩
      refine ⟨_, rfl, ?_⟩
      rw [e2]
      exact go rfl hb5 hs5 rfl
    · obtain ⟨o', e1, e2, e3, e4, e5⟩ := o31
      obtain rfl := Option.some.inj (ho.symm.trans e1)
      have dp := dep_of' e5 hdep
      have V28 : a.tmps.getD 111 undef = .bool false := hI.val 28 111 (by decide) rfl (dp 28 (by decide))
      have U10 : a.tmps.getD 10 undef = .pointer (some ⟨y, 0, none⟩) := (kp 10 (by decide)).trans u10
      obtain ⟨og, g1, g2, -, -, -⟩ := o28
      exact wpOp_value_b (v := .pointer (some ⟨y, 0, none⟩)) (w' := w) ho e4 g1 g2 (by rw [hI.size]; exact Nat.lt_of_lt_of_le (by decide) hs) V28 (by simp [execOp, e3, ev, evc, V28, U10]) (by rw [e2]; exact go rfl (Below.refl _ _) hw rfl)
    · obtain ⟨o', e1, e2, e3, e4, e5⟩ := o32
      obtain rfl := Option.some.inj (ho.symm.trans e1)
      have dp := dep_of' e5 hdep
      have V28 : a.tmps.getD 111 undef = .bool false := hI.val 28 111 (by decide) rfl (dp 28 (by decide))
      have V31 : a.tmps.getD 114 undef = .pointer (some ⟨y, 0, none⟩) := hI.val 31 114 (by decide) rfl (dp 31 (by decide))
      obtain ⟨og, g1, g2, -, -, -⟩ := o28
      refine wpOp_call_b (f := 20) (args := #[.pointer (some ⟨y, 0, none⟩)]) ho e4 g1 g2 (by rw [hI.size]; exact Nat.lt_of_lt_of_le (by decide) hs) V28 (by simp [execOp, e3, resolve, invoke, Deferred.ofValue, r20, ev, evf, evc, V28, V31]) ((x32 w hw).mono ?_)
      rintro e W' ⟨rfl, hb5, hs5⟩
      refine ⟨_, rfl, ?_⟩
      rw [e2]
      exact go rfl hb5 hs5 rfl
    · obtain ⟨o', e1, e2, e3, e4, e5⟩ := o33
      obtain rfl := Option.some.inj (ho.symm.trans e1)
      have dp := dep_of' e5 hdep
      have V28 : a.tmps.getD 111 undef = .bool false := hI.val 28 111 (by decide) rfl (dp 28 (by decide))
      have V30 : a.tmps.getD 113 undef = .int .i64 r := hI.val 30 113 (by decide) rfl (dp 30 (by decide))
      have V32 : a.tmps.getD 115 undef = .int .i64 r := hI.val 32 115 (by decide) rfl (dp 32 (by decide))
      obtain ⟨og, g1, g2, -, -, -⟩ := o28
      exact wpOp_value_b (v := .bool false) (w' := w) ho e4 g1 g2 (by rw [hI.size]; exact Nat.lt_of_lt_of_le (by decide) hs) V28 (by simp [execOp, e3, ev, evc, V28, V30, V32, x33 w, eqGuard]) (by rw [e2]; exact go rfl (Below.refl _ _) hw rfl)
    · obtain ⟨o', e1, e2, e3, e4, e5⟩ := o34
      obtain rfl := Option.some.inj (ho.symm.trans e1)
      have dp := dep_of' e5 hdep
      have V28 : a.tmps.getD 111 undef = .bool false := hI.val 28 111 (by decide) rfl (dp 28 (by decide))
      have V33 : a.tmps.getD 116 undef = .bool false := hI.val 33 116 (by decide) rfl (dp 33 (by decide))
      exact wpOp_value (v := .bool false) (w' := w) ho e4 (by simp [execOp, e3, ev, evc, V28, V33, asBool]) (by rw [e2]; exact go rfl (Below.refl _ _) hw rfl)
    · obtain ⟨o', e1, e2, e3, e4, e5⟩ := o35
      obtain rfl := Option.some.inj (ho.symm.trans e1)
      have dp := dep_of' e5 hdep
      have V34 : a.tmps.getD 117 undef = .bool false := hI.val 34 117 (by decide) rfl (dp 34 (by decide))
      exact wpOp_value (v := .bool false) (w' := w) ho e4 (by simp [execOp, e3, ev, evc, V34]) (by rw [e2]; exact go rfl (Below.refl _ _) hw rfl)
    · obtain ⟨o', e1, e2, e3, e4, e5⟩ := o36
      obtain rfl := Option.some.inj (ho.symm.trans e1)
      have dp := dep_of' e5 hdep
      have V35 : a.tmps.getD 118 undef = .bool false := hI.val 35 118 (by decide) rfl (dp 35 (by decide))
      have U5 : a.tmps.getD 5 undef = .pointer (some ⟨b, 0, none⟩) := (kp 5 (by decide)).trans u5
      obtain ⟨og, g1, g2, -, -, -⟩ := o35
      exact wpOp_value_b (v := .pointer (some ⟨b, 0, none⟩)) (w' := w) ho e4 g1 g2 (by rw [hI.size]; exact Nat.lt_of_lt_of_le (by decide) hs) V35 (by simp [execOp, e3, ev, evc, V35, U5]) (by rw [e2]; exact go rfl (Below.refl _ _) hw rfl)
    · obtain ⟨o', e1, e2, e3, e4, e5⟩ := o37
      obtain rfl := Option.some.inj (ho.symm.trans e1)
      have dp := dep_of' e5 hdep
      have V35 : a.tmps.getD 118 undef = .bool false := hI.val 35 118 (by decide) rfl (dp 35 (by decide))
      have U7 : a.tmps.getD 7 undef = .pointer (some ⟨p, 0, none⟩) := (kp 7 (by decide)).trans u7
      obtain ⟨og, g1, g2, -, -, -⟩ := o35
      exact wpOp_value_b (v := .pointer (some ⟨p, 0, none⟩)) (w' := w) ho e4 g1 g2 (by rw [hI.size]; exact Nat.lt_of_lt_of_le (by decide) hs) V35 (by simp [execOp, e3, ev, evc, V35, U7]) (by rw [e2]; exact go rfl (Below.refl _ _) hw rfl)
    · obtain ⟨o', e1, e2, e3, e4, e5⟩ := o38
      obtain rfl := Option.some.inj (ho.symm.trans e1)
      have dp := dep_of' e5 hdep
      have V35 : a.tmps.getD 118 undef = .bool false := hI.val 35 118 (by decide) rfl (dp 35 (by decide))
      have V36 : a.tmps.getD 119 undef = .pointer (some ⟨b, 0, none⟩) := hI.val 36 119 (by decide) rfl (dp 36 (by decide))
      have V37 : a.tmps.getD 120 undef = .pointer (some ⟨p, 0, none⟩) := hI.val 37 120 (by decide) rfl (dp 37 (by decide))
      obtain ⟨og, g1, g2, -, -, -⟩ := o35
      refine wpOp_call_b (f := 21) (args := #[.pointer (some ⟨b, 0, none⟩), .pointer (some ⟨p, 0, none⟩)]) ho e4 g1 g2 (by rw [hI.size]; exact Nat.lt_of_lt_of_le (by decide) hs) V35 (by simp [execOp, e3, resolve, invoke, Deferred.ofValue, r21, ev, evf, evc, V35, V36, V37]) ((x38 w hw).mono ?_)
      rintro e W' ⟨rfl, hb5, hs5⟩
      refine ⟨_, rfl, ?_⟩
      rw [e2]
      exact go rfl hb5 hs5 rfl
    · obtain ⟨o', e1, e2, e3, e4, e5⟩ := o39
      obtain rfl := Option.some.inj (ho.symm.trans e1)
      have dp := dep_of' e5 hdep
      have V35 : a.tmps.getD 118 undef = .bool false := hI.val 35 118 (by decide) rfl (dp 35 (by decide))
      have V38 : a.tmps.getD 121 undef = .bool true := hI.val 38 121 (by decide) rfl (dp 38 (by decide))
      obtain ⟨og, g1, g2, -, -, -⟩ := o35
      exact wpOp_value_b (v := .bool false) (w' := w) ho e4 g1 g2 (by rw [hI.size]; exact Nat.lt_of_lt_of_le (by decide) hs) V35 (by simp [execOp, e3, ev, evc, V35, V38, Op.unary]) (by rw [e2]; exact go rfl (Below.refl _ _) hw rfl)
    · obtain ⟨o', e1, e2, e3, e4, e5⟩ := o40
      obtain rfl := Option.some.inj (ho.symm.trans e1)
      have dp := dep_of' e5 hdep
      have V35 : a.tmps.getD 118 undef = .bool false := hI.val 35 118 (by decide) rfl (dp 35 (by decide))
      have V39 : a.tmps.getD 122 undef = .bool false := hI.val 39 122 (by decide) rfl (dp 39 (by decide))
      exact wpOp_value (v := .bool false) (w' := w) ho e4 (by simp [execOp, e3, ev, evc, V35, V39, asBool]) (by rw [e2]; exact go rfl (Below.refl _ _) hw rfl)
  · intro l a w hall hI
    have all : ∀ j, j < 41 → l j = true := fun j hj => hall j (by rw [hsz]; exact hj)
    exact fin a w hI.size hI.defers hI.kept hI.world (fun i d hi hD => hI.val i d hi hD (all i hi))
end

/- The region of act that copies the weights and puts them, on both sides. -/
section
open Go.ChangeShapes Go.WideShapes Go.ChangeAt Go.RowKit
set_option linter.unusedVariables false
set_option linter.unusedSimpArgs false

set_option linter.unusedSimpArgs false

def acD (i : Nat) : Option Nat := match i with | 0 => some 17 | 1 => some 18 | 2 => some 19 | 3 => some 20 | 4 => some 21 | 5 => some 22 | 6 => some 23 | 7 => some 24 | 8 => some 25 | 9 => some 26 | 10 => some 27 | 11 => some 28 | 12 => some 29 | 13 => some 30 | 14 => some 31 | 15 => some 8 | _ => none
theorem acD_inj : ∀ i, i < 16 → ∀ j, j < 16 → acD i = acD j → acD i ≠ none → i = j := by decide
theorem acD_lt : ∀ i, i < 16 → ∀ d, acD i = some d → d < 130 := by
  intro i hi d h
  have : ∀ i, i < 16 → (acD i).all (fun d => decide (d < 130)) = true := by decide
  have := this i hi
  rw [h] at this
  simpa using this
def acF (x y : Nat) (X : Addr) (g : Nat) (t : ByteArray) (sa : Option Addr) (sn sc : Nat) (ca : Option Addr) (cn cc : Nat) (E E' : Int) (i : Nat) (q : Value) (w : World) : Prop := match i with
  | 0 => q = .pointer (some ⟨x, 0, none⟩)
  | 1 => q = .pointer (some (X.add 1))
  | 2 => q = .string t
  | 3 => q = .slice (some ⟨g, 0, none⟩) 0 0
  | 4 => q = .pointer (some (X.add 2))
  | 5 => q = .slice sa sn sc
  | 6 => q = .slice ca cn cc
  | 7 => q = .int .i64 E
  | 8 => q = .pointer (some ⟨y, 0, none⟩)
  | 9 => q = .pointer (some (X.add 1))
  | 10 => q = .string t
  | 11 => q = .pointer (some (X.add 2))
  | 12 => q = .slice sa sn sc
  | 13 => q = .int .i64 E'
  | 14 => q = .bool (E == E')
  | 15 => q = .bool (E == E')
  | _ => True
def acR (w0 W2 : World) (P1 P2 : World → Prop) (l : Nat → Bool) (w : World) : Prop := (l 3 = false → w = w0.drew) ∧ (l 3 = true → l 6 = false → w = w0.drew.alloc (.cells #[] 59)) ∧ (l 6 = true → l 7 = false → w = W2) ∧ (l 7 = true → l 13 = false → P1 w) ∧ (l 13 = true → P2 w)

set_option maxHeartbeats 8000000 in
theorem ac_region {id : Nat} {ops : Array Oper} {Q : Exit → Act → World → Prop} {a0 : Act} {w0 : World} (x y : Nat) (X : Addr) (g : Nat) (t : ByteArray) (sa : Option Addr) (sn sc : Nat) (ca : Option Addr) (cn cc : Nat) (E E' : Int) (W2 : World) (S P1 P2 : World → Prop) (hlow : lowB ops = true) (hsz : ops.size = 16)
    (o0 : OpIn ops 0 (some 17) (.move (.tmp 0)) none []) (o1 : OpIn ops 1 (some 18) (.fieldAddr 39 (.tmp 7) 1) none []) (o2 : OpIn ops 2 (some 19) (.load 9 (.tmp 18)) none [1]) (o3 : OpIn ops 3 (some 20) (.buildSlice 37 0 #[]) none []) (o4 : OpIn ops 4 (some 21) (.fieldAddr 39 (.tmp 7) 2) none []) (o5 : OpIn ops 5 (some 22) (.load 37 (.tmp 21)) none [4]) (o6 : OpIn ops 6 (some 23) (.call { callee := .builtin .append, args := #[.tmp 20, .tmp 22], argTypes := #[37, 37] }) none [3, 5]) (o7 : OpIn ops 7 (some 24) (.call { callee := .value (.func 23), args := #[.tmp 17, .tmp 19, .tmp 23], argTypes := #[31, 9, 37] }) none [0, 2, 6]) (o8 : OpIn ops 8 (some 25) (.move (.tmp 2)) none []) (o9 : OpIn ops 9 (some 26) (.fieldAddr 39 (.tmp 7) 1) none []) (o10 : OpIn ops 10 (some 27) (.load 9 (.tmp 26)) none [9]) (o11 : OpIn ops 11 (some 28) (.fieldAddr 39 (.tmp 7) 2) none []) (o12 : OpIn ops 12 (some 29) (.load 37 (.tmp 28)) none [11]) (o13 : OpIn ops 13 (some 30) (.call { callee := .value (.func 30), args := #[.tmp 25, .tmp 27, .tmp 29], argTypes := #[33, 9, 37] }) none [8, 10, 12, 7]) (o14 : OpIn ops 14 (some 31) (.binOp .eql 25 (.tmp 24) (.tmp 30) 25) none [7, 13]) (o15 : OpIn ops 15 (some 8) (.assign (.tmp 31)) none [14])
    (ty : TypeId) (hty : ∀ o, ops[6]? = some o → o.type = ty)
    (hS0 : S w0.drew) (hS1 : S (w0.drew.alloc (.cells #[] 59))) (hS2 : S W2) (hSP : ∀ w, P1 w → S w)
    (h0 : a0.tmps.getD 0 undef = .pointer (some ⟨x, 0, none⟩)) (h2 : a0.tmps.getD 2 undef = .pointer (some ⟨y, 0, none⟩)) (h7 : a0.tmps.getD 7 undef = .pointer (some X)) (hg : g = w0.heap.size)
    (ld9 : ∀ w, S w → (Instr.loadAt 9 (.pointer (some (X.add 1)))).run Try.prog w = .ok (.string t) w) (ld37 : ∀ w, S w → (Instr.loadAt 37 (.pointer (some (X.add 2)))).run Try.prog w = .ok (.slice sa sn sc) w)
    (hap : (Builtin.append_ #[37, 37] ty #[.slice (some ⟨g, 0, none⟩) 0 0, .slice sa sn sc]).run Try.prog (w0.drew.alloc (.cells #[] 59)) = .ok (.slice ca cn cc) W2)
    (kc : Calls Try.prog 23 #[.pointer (some ⟨x, 0, none⟩), .string t, .slice ca cn cc] W2 fun e w' => e = .returned (.int .i64 E) ∧ P1 w')
    (kd : ∀ w, P1 w → Calls Try.prog 30 #[.pointer (some ⟨y, 0, none⟩), .string t, .slice sa sn sc] w fun e w' => e = .returned (.int .i64 E') ∧ P2 w')
    (hs : 130 ≤ a0.tmps.size)
    (fin : ∀ a w, a.tmps.size = a0.tmps.size → a.defers = a0.defers → (∀ s, (∀ i, i < 16 → acD i ≠ some s) → a.tmps.getD s undef = a0.tmps.getD s undef) → (∀ i d, i < 16 → acD i = some d → acF x y X g t sa sn sc ca cn cc E E' i (a.tmps.getD d undef) w) → P2 w → Q .normal a w) :
    (Code.region id ops true).wp Try.prog Q a0 w0 := by
  have r23 : ∀ args w, (callFunc 23 args).run Try.prog w = .ok (.enter 23 args) w := enters_of Try.func23 (by kernel_rfl) rfl
  have r30 : ∀ args w, (callFunc 30 args).run Try.prog w = .ok (.enter 30 args) w := enters_of Try.func30 (by kernel_rfl) rfl
  refine wp_region_inv2 (by kernel_rfl) hlow (Inv 16 acD a0 (fun l _ w => acR w0 W2 P1 P2 l w) (fun _ => acF x y X g t sa sn sc ca cn cc E E')) (Inv.start ⟨fun _ => rfl, (fun h => by cases h), (fun h => by cases h), (fun h => by cases h), fun h => by cases h⟩) ?_ ?_
  · intro l i o a w ho hl hcl hdep hI
    have hi : i < 16 := by rw [← hsz]; exact (Array.getElem?_eq_some_iff.1 ho).1
    have ev : ∀ (s : Nat), a.eval (.tmp s) = a.tmps.getD s undef := fun _ => rfl
    have evf : ∀ f, a.eval (.func f) = .func (.func f) #[] #[] := fun _ => rfl
    have evc : ∀ c : Value, a.eval (.const c) = c := fun _ => rfl
    have inj : ∀ d, acD i = some d → ∀ j d', j < 16 → acD j = some d' → j ≠ i → d' ≠ d := fun d hd j d' hj hd' hne e => hne (acD_inj j hj i hi (by rw [hd', hd, e]) (by rw [hd']; simp))
    have kp : ∀ s, (∀ i, i < 16 → acD i ≠ some s) → a.tmps.getD s undef = a0.tmps.getD s undef := hI.kept
    have oth : ∀ j, j ≠ i → (l j || j == i) = l j := fun j hj => by rw [show (j == i) = false by simp [hj], Bool.or_false]
    have sam : (l i || i == i) = true := by simp
    have go : ∀ {d : Nat} {v : Value}, acD i = some d → (i = 0 ∨ i = 1 ∨ i = 2 ∨ i = 4 ∨ i = 5 ∨ i = 8 ∨ i = 9 ∨ i = 10 ∨ i = 11 ∨ i = 12 ∨ i = 14 ∨ i = 15) → acF x y X g t sa sn sc ca cn cc E E' i v w → Inv 16 acD a0 (fun l _ w => acR w0 W2 P1 P2 l w) (fun _ => acF x y X g t sa sn sc ca cn cc E E') (fun j => l j || j == i) (a.put (some d) v) w := by
      intro d v hD hi' hF
      refine hI.put hi hD (Nat.lt_of_lt_of_le (acD_lt i hi d hD) hs) (inj d hD) ?_ hF (fun j u _ _ _ hf => hf)
      show acR w0 W2 P1 P2 _ w
      unfold acR
      dsimp only
      rw [oth 3 (by omega), oth 6 (by omega), oth 7 (by omega), oth 13 (by omega)]
      exact hI.world
    have hSw : l 13 = false → S w := fun hc => by
      cases e1 : l 3 with
      | false => rw [hI.world.1 e1]; exact hS0
      | true =>
        cases e2 : l 6 with
        | false => rw [hI.world.2.1 e1 e2]; exact hS1
        | true => cases e3 : l 7 with
          | false => rw [hI.world.2.2.1 e2 e3]; exact hS2
          | true => exact hSP w (hI.world.2.2.2.1 e3 hc)
    rcases (show i = 0 ∨ i = 1 ∨ i = 2 ∨ i = 3 ∨ i = 4 ∨ i = 5 ∨ i = 6 ∨ i = 7 ∨ i = 8 ∨ i = 9 ∨ i = 10 ∨ i = 11 ∨ i = 12 ∨ i = 13 ∨ i = 14 ∨ i = 15 by omega) with rfl | rfl | rfl | rfl | rfl | rfl | rfl | rfl | rfl | rfl | rfl | rfl | rfl | rfl | rfl | rfl
    · obtain ⟨o', e1, e2, e3, e4, e5⟩ := o0
      obtain rfl := Option.some.inj (ho.symm.trans e1)
      have dp := dep_of' e5 hdep
      exact wpOp_value (v := .pointer (some ⟨x, 0, none⟩)) (w' := w) ho e4 (by simp [execOp, e3, ev, evc, kp 0 (by decide), h0]) (by rw [e2]; exact go rfl (by decide) rfl)
    · obtain ⟨o', e1, e2, e3, e4, e5⟩ := o1
      obtain rfl := Option.some.inj (ho.symm.trans e1)
      have dp := dep_of' e5 hdep
      exact wpOp_value (v := .pointer (some (X.add 1))) (w' := w) ho e4 (by simp [execOp, e3, ev, evc, kp 7 (by decide), h7, run_field39 X 1 (by decide)]) (by rw [e2]; exact go rfl (by decide) rfl)
    · obtain ⟨o', e1, e2, e3, e4, e5⟩ := o2
      obtain rfl := Option.some.inj (ho.symm.trans e1)
      have dp := dep_of' e5 hdep
      have V1 : a.tmps.getD 18 undef = .pointer (some (X.add 1)) := hI.val 1 18 (by decide) rfl (dp 1 (by decide))
      have nl : l 13 = false := by
        cases e : l 13 with
        | false => rfl
        | true =>
          exfalso
          have y0 := hcl.dep' o13 e 7 (by decide)
          have y1 := hcl.dep' o7 y0 2 (by decide)
          rw [hl] at y1
          cases y1
      exact wpOp_value (v := .string t) (w' := w) ho e4 (by simp [execOp, e3, ev, V1, ld9 w (hSw nl)]) (by rw [e2]; exact go rfl (by decide) rfl)
    · obtain ⟨o', e1, e2, e3, e4, e5⟩ := o3
      obtain rfl := Option.some.inj (ho.symm.trans e1)
      have dp := dep_of' e5 hdep
      have n6 : l 6 = false := by cases e : l 6 with | false => rfl | true => have := hcl.dep' o6 e 3 (by decide); rw [hl] at this; cases this
      have n7 : l 7 = false := by cases e : l 7 with | false => rfl | true => have := hcl.dep' o7 e 6 (by decide); rw [n6] at this; cases this
      have n13 : l 13 = false := by cases e : l 13 with | false => rfl | true => have := hcl.dep' o13 e 7 (by decide); rw [n7] at this; cases this
      obtain rfl := hI.world.1 hl
      refine wpOp_value (v := .slice (some ⟨g, 0, none⟩) 0 0) (w' := w0.drew.alloc (.cells #[] 59)) ho e4 (by simp [execOp, e3, run_build37, hg]) ?_
      rw [e2]
      refine hI.put hi rfl (Nat.lt_of_lt_of_le (by decide) hs) (inj 20 rfl) ?_ rfl (fun j u hj hlj hne hf => hf)
      show acR w0 _ P1 P2 _ _
      unfold acR
      dsimp only
      rw [sam, oth 6 (by decide), oth 7 (by decide), oth 13 (by decide)]
      exact ⟨(fun h => by cases h), fun _ _ => rfl, (fun h => by rw [n6] at h; cases h), (fun h => by rw [n7] at h; cases h), fun h => by rw [n13] at h; cases h⟩
    · obtain ⟨o', e1, e2, e3, e4, e5⟩ := o4
      obtain rfl := Option.some.inj (ho.symm.trans e1)
      have dp := dep_of' e5 hdep
      exact wpOp_value (v := .pointer (some (X.add 2))) (w' := w) ho e4 (by simp [execOp, e3, ev, evc, kp 7 (by decide), h7, run_field39 X 2 (by decide)]) (by rw [e2]; exact go rfl (by decide) rfl)
    · obtain ⟨o', e1, e2, e3, e4, e5⟩ := o5
      obtain rfl := Option.some.inj (ho.symm.trans e1)
      have dp := dep_of' e5 hdep
      have V4 : a.tmps.getD 21 undef = .pointer (some (X.add 2)) := hI.val 4 21 (by decide) rfl (dp 4 (by decide))
      have nl : l 13 = false := by
        cases e : l 13 with
        | false => rfl
        | true =>
          exfalso
          have y0 := hcl.dep' o13 e 7 (by decide)
          have y1 := hcl.dep' o7 y0 6 (by decide)
          have y2 := hcl.dep' o6 y1 5 (by decide)
          rw [hl] at y2
          cases y2
      exact wpOp_value (v := .slice sa sn sc) (w' := w) ho e4 (by simp [execOp, e3, ev, V4, ld37 w (hSw nl)]) (by rw [e2]; exact go rfl (by decide) rfl)
    · obtain ⟨o', e1, e2, e3, e4, e5⟩ := o6
      obtain rfl := Option.some.inj (ho.symm.trans e1)
      have dp := dep_of' e5 hdep
      have V3 : a.tmps.getD 20 undef = .slice (some ⟨g, 0, none⟩) 0 0 := hI.val 3 20 (by decide) rfl (dp 3 (by decide))
      have V5 : a.tmps.getD 22 undef = .slice sa sn sc := hI.val 5 22 (by decide) rfl (dp 5 (by decide))
      have n7 : l 7 = false := by cases e : l 7 with | false => rfl | true => have := hcl.dep' o7 e 6 (by decide); rw [hl] at this; cases this
      have n13 : l 13 = false := by cases e : l 13 with | false => rfl | true => have := hcl.dep' o13 e 7 (by decide); rw [n7] at this; cases this
      obtain rfl := hI.world.2.1 (dp 3 (by decide)) hl
      have hap' := hap
      rw [← hty _ ho] at hap'
      refine wpOp_value (v := .slice ca cn cc) (w' := W2) ho e4 (by simp only [execOp, e3, resolve, invoke, builtin, Sem.run_bind, Sem.run_pure, Result.andThen_ok, List.map_toArray, List.map_cons, List.map_nil, ev, V3, V5, hap']) ?_
      rw [e2]
      refine hI.put hi rfl (Nat.lt_of_lt_of_le (by decide) hs) (inj 23 rfl) ?_ rfl (fun j u hj hlj hne hf => hf)
      show acR w0 _ P1 P2 _ _
      unfold acR
      dsimp only
      rw [sam, oth 3 (by decide), oth 7 (by decide), oth 13 (by decide)]
      exact ⟨(fun h => by rw [dp 3 (by decide)] at h; cases h), (fun _ h => by cases h), fun _ _ => rfl, (fun h => by rw [n7] at h; cases h), fun h => by rw [n13] at h; cases h⟩
    · obtain ⟨o', e1, e2, e3, e4, e5⟩ := o7
      obtain rfl := Option.some.inj (ho.symm.trans e1)
      have dp := dep_of' e5 hdep
      have V0 : a.tmps.getD 17 undef = .pointer (some ⟨x, 0, none⟩) := hI.val 0 17 (by decide) rfl (dp 0 (by decide))
      have V2 : a.tmps.getD 19 undef = .string t := hI.val 2 19 (by decide) rfl (dp 2 (by decide))
      have V6 : a.tmps.getD 23 undef = .slice ca cn cc := hI.val 6 23 (by decide) rfl (dp 6 (by decide))
      have n13 : l 13 = false := by cases e : l 13 with | false => rfl | true => have := hcl.dep' o13 e 7 (by decide); rw [hl] at this; cases this
      obtain rfl := hI.world.2.2.1 (dp 6 (by decide)) hl
      refine wpOp_call (f := 23) (args := #[.pointer (some ⟨x, 0, none⟩), .string t, .slice ca cn cc]) ho e4 (by simp [execOp, e3, resolve, invoke, Deferred.ofValue, r23, ev, evf, evc, V0, V2, V6]) (kc.mono ?_)
      rintro e W' ⟨rfl, hp⟩
      refine ⟨_, rfl, ?_⟩
      rw [e2]
      refine hI.put hi rfl (Nat.lt_of_lt_of_le (by decide) hs) (inj 24 rfl) ?_ rfl (fun j u hj hlj hne hf => hf)
      show acR w0 _ P1 P2 _ _
      unfold acR
      dsimp only
      rw [sam, oth 3 (by decide), oth 6 (by decide), oth 13 (by decide)]
      exact ⟨(fun h => by rw [hcl.dep' o6 (dp 6 (by decide)) 3 (by decide)] at h; cases h), (fun _ h => by rw [dp 6 (by decide)] at h; cases h), (fun _ h => by cases h), (fun _ _ => hp), fun h => by rw [n13] at h; cases h⟩
    · obtain ⟨o', e1, e2, e3, e4, e5⟩ := o8
      obtain rfl := Option.some.inj (ho.symm.trans e1)
      have dp := dep_of' e5 hdep
      exact wpOp_value (v := .pointer (some ⟨y, 0, none⟩)) (w' := w) ho e4 (by simp [execOp, e3, ev, evc, kp 2 (by decide), h2]) (by rw [e2]; exact go rfl (by decide) rfl)
    · obtain ⟨o', e1, e2, e3, e4, e5⟩ := o9
      obtain rfl := Option.some.inj (ho.symm.trans e1)
      have dp := dep_of' e5 hdep
      exact wpOp_value (v := .pointer (some (X.add 1))) (w' := w) ho e4 (by simp [execOp, e3, ev, evc, kp 7 (by decide), h7, run_field39 X 1 (by decide)]) (by rw [e2]; exact go rfl (by decide) rfl)
    · obtain ⟨o', e1, e2, e3, e4, e5⟩ := o10
      obtain rfl := Option.some.inj (ho.symm.trans e1)
      have dp := dep_of' e5 hdep
      have V9 : a.tmps.getD 26 undef = .pointer (some (X.add 1)) := hI.val 9 26 (by decide) rfl (dp 9 (by decide))
      have nl : l 13 = false := by
        cases e : l 13 with
        | false => rfl
        | true =>
          exfalso
          have y0 := hcl.dep' o13 e 10 (by decide)
          rw [hl] at y0
          cases y0
      exact wpOp_value (v := .string t) (w' := w) ho e4 (by simp [execOp, e3, ev, V9, ld9 w (hSw nl)]) (by rw [e2]; exact go rfl (by decide) rfl)
    · obtain ⟨o', e1, e2, e3, e4, e5⟩ := o11
      obtain rfl := Option.some.inj (ho.symm.trans e1)
      have dp := dep_of' e5 hdep
      exact wpOp_value (v := .pointer (some (X.add 2))) (w' := w) ho e4 (by simp [execOp, e3, ev, evc, kp 7 (by decide), h7, run_field39 X 2 (by decide)]) (by rw [e2]; exact go rfl (by decide) rfl)
    · obtain ⟨o', e1, e2, e3, e4, e5⟩ := o12
      obtain rfl := Option.some.inj (ho.symm.trans e1)
      have dp := dep_of' e5 hdep
      have V11 : a.tmps.getD 28 undef = .pointer (some (X.add 2)) := hI.val 11 28 (by decide) rfl (dp 11 (by decide))
      have nl : l 13 = false := by
        cases e : l 13 with
        | false => rfl
        | true =>
          exfalso
          have y0 := hcl.dep' o13 e 12 (by decide)
          rw [hl] at y0
          cases y0
      exact wpOp_value (v := .slice sa sn sc) (w' := w) ho e4 (by simp [execOp, e3, ev, V11, ld37 w (hSw nl)]) (by rw [e2]; exact go rfl (by decide) rfl)
    · obtain ⟨o', e1, e2, e3, e4, e5⟩ := o13
      obtain rfl := Option.some.inj (ho.symm.trans e1)
      have dp := dep_of' e5 hdep
      have V8 : a.tmps.getD 25 undef = .pointer (some ⟨y, 0, none⟩) := hI.val 8 25 (by decide) rfl (dp 8 (by decide))
      have V10 : a.tmps.getD 27 undef = .string t := hI.val 10 27 (by decide) rfl (dp 10 (by decide))
      have V12 : a.tmps.getD 29 undef = .slice sa sn sc := hI.val 12 29 (by decide) rfl (dp 12 (by decide))
      have V7 : a.tmps.getD 24 undef = .int .i64 E := hI.val 7 24 (by decide) rfl (dp 7 (by decide))
      refine wpOp_call (f := 30) (args := #[.pointer (some ⟨y, 0, none⟩), .string t, .slice sa sn sc]) ho e4 (by simp [execOp, e3, resolve, invoke, Deferred.ofValue, r30, ev, evf, evc, V8, V10, V12]) ((kd w (hI.world.2.2.2.1 (dp 7 (by decide)) hl)).mono ?_)
      rintro e W' ⟨rfl, hp⟩
      refine ⟨_, rfl, ?_⟩
      rw [e2]
      refine hI.put hi rfl (Nat.lt_of_lt_of_le (by decide) hs) (inj 30 rfl) ?_ rfl (fun j u hj hlj hne hf => hf)
      show acR w0 _ P1 P2 _ _
      unfold acR
      dsimp only
      have yC := dp 7 (by decide)
      have yA := hcl.dep' o7 yC 6 (by decide)
      have yB := hcl.dep' o6 yA 3 (by decide)
      rw [sam, oth 3 (by decide), oth 6 (by decide), oth 7 (by decide)]
      exact ⟨(fun h => by rw [yB] at h; cases h), (fun _ h => by rw [yA] at h; cases h), (fun _ h => by rw [yC] at h; cases h), (fun _ h => by cases h), fun _ => hp⟩
    · obtain ⟨o', e1, e2, e3, e4, e5⟩ := o14
      obtain rfl := Option.some.inj (ho.symm.trans e1)
      have dp := dep_of' e5 hdep
      have V7 : a.tmps.getD 24 undef = .int .i64 E := hI.val 7 24 (by decide) rfl (dp 7 (by decide))
      have V13 : a.tmps.getD 30 undef = .int .i64 E' := hI.val 13 30 (by decide) rfl (dp 13 (by decide))
      exact wpOp_value (v := .bool (E == E')) (w' := w) ho e4 (by simp [execOp, e3, ev, evc, V7, V13, run_eql25, eqGuard]) (by rw [e2]; exact go rfl (by decide) rfl)
    · obtain ⟨o', e1, e2, e3, e4, e5⟩ := o15
      obtain rfl := Option.some.inj (ho.symm.trans e1)
      have dp := dep_of' e5 hdep
      have V14 : a.tmps.getD 31 undef = .bool (E == E') := hI.val 14 31 (by decide) rfl (dp 14 (by decide))
      exact wpOp_value (v := .bool (E == E')) (w' := w) ho e4 (by simp [execOp, e3, ev, evc, V14]) (by rw [e2]; exact go rfl (by decide) rfl)
  · intro l a w hall hI
    have all : ∀ j, j < 16 → l j = true := fun j hj => hall j (by rw [hsz]; exact hj)
    exact fin a w hI.size hI.defers hI.kept (fun i d hi hD => hI.val i d hi hD (all i hi)) (hI.world.2.2.2.2 (all 13 (by decide)))
end

end Go.Proofs.Ytfggkkhehaafcaa
