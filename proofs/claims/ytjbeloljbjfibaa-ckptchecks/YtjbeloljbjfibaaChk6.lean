/- CkptChecks: its last region, whatever order it draws. -/
import Derived.Test.YtjbeloljbjfibaaRows
import Derived.Test.YtjbeloljbjfibaaLayer8
import Derived.Test.YtjbeloljbjfibaaConf
import Derived.Test.YtjbeloljbjfibaaBlank
import Derived.Test.YtjbeloljbjfibaaCfgRef
import Derived.Test.YtjbeloljbjfibaaSize
import Derived.Test.YtjbeloljbjfibaaSizes
import Derived.Test.YtjbeloljbjfibaaSteps
import Derived.Test.YtjbeloljbjfibaaClo54
import Derived.Test.YtjbeloljbjfibaaFill
import Derived.Test.YtjbeloljbjfibaaMods
import Derived.Test.YtjbeloljbjfibaaFills
import Derived.Test.YtjbeloljbjfibaaShape
import Derived.Test.YtjbeloljbjfibaaShapes
import Derived.Test.YtjbeloljbjfibaaCheck
import Derived.Test.YtjbeloljbjfibaaChecks
import Derived.Test.YtjbeloljbjfibaaDims
import Derived.Test.YtjbeloljbjfibaaFlat
import Derived.Test.YtjbeloljbjfibaaNumbers
import Derived.Test.YtjbeloljbjfibaaPrefix
import Derived.Test.YtjbeloljbjfibaaBody
import Derived.Test.YtjbeloljbjfibaaDecode
import Derived.WalkKit
import Derived.ProofKit
import Derived.OpenShut
import Derived.Below
import Derived.WalkLawsBesides
import Derived.Deep.QuietTactic
import Derived.BigQuiet
import Derived.Deep.RegionWith
import Derived.Deep.RegionHeld3
import Derived.Deep.OwnRows
import Derived.Deep.Slices
import Derived.Test.YtjbeloljbjfibaaTrips
import Derived.Test.YtjbeloljbjfibaaInv
import Derived.Test.YtjbeloljbjfibaaBuild
import Derived.Test.YtjbeloljbjfibaaTypedC
import Derived.Test.YtjbeloljbjfibaaEqWorks
import Derived.Test.YtjbeloljbjfibaaCuts
import Derived.Test.YtjbeloljbjfibaaSameLM
import Derived.Test.YtjbeloljbjfibaaOwns
import Derived.Test.YtjbeloljbjfibaaJoin
import Derived.Test.YtjbeloljbjfibaaRefChk
import Derived.Test.YtjbeloljbjfibaaLay
import Derived.Test.YtjbeloljbjfibaaMore
namespace Go.Proofs.Ytjbeloljbjfibaa
open Go.ChangeShapes Go.WideShapes Go.ChangeAt Go.RowKit
set_option linter.unusedVariables false

theorem run_load29 {w : World} {b : Nat} {c0 c1 c2 c3 c4 c5 c6 c7 : Int} {E L N O : SL} (q : Blk 29 w b #[.int .i64 c0, .int .i64 c1, .int .i64 c2, .int .i64 c3, .int .i64 c4, .int .i64 c5, .int .i64 c6, .int .i64 c7, .slice E.a E.n E.c, .slice L.a L.n L.c, .slice N.a N.n N.c, .slice O.a O.n O.c]) :
    (Instr.loadAt 29 (.pointer (some ⟨b, 0, none⟩))).run Try.prog w = .ok (.agg #[.int .i64 c0, .int .i64 c1, .int .i64 c2, .int .i64 c3, .int .i64 c4, .int .i64 c5, .int .i64 c6, .int .i64 c7, .slice E.a E.n E.c, .slice L.a L.n L.c, .slice N.a N.n N.c, .slice O.a O.n O.c]) w := by
  obtain ⟨a0, a1, a2, a3, a4, a5, a6, a7, a8, a9, a10, a11⟩ := q.c12
  clear q
  go_simp
theorem run_eql31 (x : Int) (w : World) : (binOp .eql 31 (.int .i64 x) (.int .i64 x)).run Try.prog w = .ok (.bool true) w := by go_simp
theorem run_eql9 (s : ByteArray) (w : World) : (binOp .eql 9 (.string s) (.string s)).run Try.prog w = .ok (.bool true) w := by go_simp

/-- an operation of a region, guarded or not -/
def OpIn (ops : Array Oper) (i : Nat) (dst : Option Tmp) (op : Op) (g : Option (Nat × Bool)) (deps : List Nat) : Prop :=
  ∃ o, ops[i]? = some o ∧ o.dst = dst ∧ o.op = op ∧ o.guard = g ∧ deps.all (fun d => o.after.any fun e => e.on == d && Region.binds .any e) = true

theorem wpOp_value_g {P : Program} {ops : Array Oper} {Q : Exit → Act → World → Prop} {i gi p : Nat} {o og : Oper} {a : Act} {w w' : World} {v : Value} {K : Act → World → Prop} (ho : ops[i]? = some o) (hg : o.guard = some (gi, true)) (hgo : ops[gi]? = some og) (hgd : og.dst = some p) (hp : p < a.tmps.size) (hb : a.tmps.getD p undef = .bool true)
    (hr : (execOp a.eval o).run P w = .ok (.value v) w') (hK : K (a.put o.dst v) w') : wpOp P ops Q i K a w := by
  have hy : yielded ops a.tmps gi = some true := by
    unfold yielded
    rw [hgo]
    simp only [Option.bind_some, hgd]
    rw [Array.getD_eq_getD_getElem?] at hb
    rw [Array.getElem?_eq_getElem hp] at hb ⊢
    simp only [Option.getD_some] at hb
    rw [hb]
  unfold wpOp
  simp only [ho]
  have hw : Region.wanted o (yielded ops a.tmps) = true := by simp [Region.wanted, hg, hy]
  rw [if_pos hw]
  refine .inl ?_
  unfold Oper.wp
  rw [hr]
  exact hK
theorem wpOp_call_g {P : Program} {ops : Array Oper} {Q : Exit → Act → World → Prop} {i gi p : Nat} {o og : Oper} {a : Act} {w : World} {f : FuncId} {args : Array Value} {K : Act → World → Prop} (ho : ops[i]? = some o) (hg : o.guard = some (gi, true)) (hgo : ops[gi]? = some og) (hgd : og.dst = some p) (hp : p < a.tmps.size) (hb : a.tmps.getD p undef = .bool true)
    (hr : (execOp a.eval o).run P w = .ok (.enter f args) w) (c : Calls P f args w fun e w' => ∃ v, e = .returned v ∧ K (a.put o.dst v) w') : wpOp P ops Q i K a w := by
  have hy : yielded ops a.tmps gi = some true := by
    unfold yielded
    rw [hgo]
    simp only [Option.bind_some, hgd]
    rw [Array.getD_eq_getD_getElem?] at hb
    rw [Array.getElem?_eq_getElem hp] at hb ⊢
    simp only [Option.getD_some] at hb
    rw [hb]
  unfold wpOp
  simp only [ho]
  have hw : Region.wanted o (yielded ops a.tmps) = true := by simp [Region.wanted, hg, hy]
  rw [if_pos hw]
  refine .inl ?_
  unfold Oper.wp
  rw [hr]
  unfold Oper.upon
  refine c.mono ?_
  rintro e w' ⟨v, rfl, hK⟩
  exact hK

def ckD (i : Nat) : Option Nat := match i with | 0 => some 24 | 1 => some 25 | 2 => some 26 | 3 => some 27 | 4 => some 28 | 5 => some 29 | 6 => some 30 | 7 => some 31 | 8 => some 32 | 9 => some 33 | 10 => some 34 | 11 => some 35 | 12 => some 36 | 13 => some 37 | 14 => some 38 | 15 => some 39 | 16 => some 40 | 17 => some 41 | 18 => some 42 | 19 => some 43 | 20 => some 44 | 21 => some 45 | 22 => some 46 | 23 => some 47 | 24 => some 48 | 25 => some 49 | 26 => some 50 | 27 => some 2 | _ => none
theorem ckD_inj : ∀ i, i < 28 → ∀ j, j < 28 → ckD i = ckD j → ckD i ≠ none → i = j := by decide
def ckF (MO MV : Value) (Z : Int) (S : ByteArray) (zs : List Int) (i : Nat) (q : Value) (w : World) : Prop := match i with
  | 0 => q = MO
  | 1 => q = .int .i64 Z
  | 2 => q = MV
  | 3 => q = .int .i64 Z
  | 4 => q = .bool true
  | 5 => q = .bool true
  | 6 => q = MO
  | 7 => ∃ s : SL, q = .slice s.a s.n s.c ∧ IsS w s zs
  | 8 => q = MV
  | 9 => ∃ s : SL, q = .slice s.a s.n s.c ∧ IsS w s zs
  | 10 => q = .bool true
  | 11 => q = .bool true
  | 12 => q = .bool true
  | 13 => q = .string S
  | 14 => q = .string S
  | 15 => q = .bool true
  | 16 => q = .bool true
  | 17 => q = .bool true
  | 18 => q = .int .i64 Z
  | 19 => q = .int .i64 Z
  | 20 => q = .bool true
  | 21 => q = .bool true
  | 22 => q = .bool true
  | 23 => q = MO
  | 24 => q = MV
  | 25 => q = .bool true
  | 26 => q = .bool true
  | 27 => q = .bool true
  | _ => True
theorem ckF_below {MO MV : Value} {Z : Int} {S : ByteArray} {zs : List Int} {i : Nat} {q : Value} {w w' : World} (h : ckF MO MV Z S zs i q w) (hb : Below w.heap.size w w') : ckF MO MV Z S zs i q w' := by
  unfold ckF at h ⊢
  split
  · exact h
  · exact h
  · exact h
  · exact h
  · exact h
  · exact h
  · exact h
  · obtain ⟨s, e1, e2⟩ := h
    exact ⟨s, e1, e2.below hb⟩
  · exact h
  · obtain ⟨s, e1, e2⟩ := h
    exact ⟨s, e1, e2.below hb⟩
  · exact h
  · exact h
  · exact h
  · exact h
  · exact h
  · exact h
  · exact h
  · exact h
  · exact h
  · exact h
  · exact h
  · exact h
  · exact h
  · exact h
  · exact h
  · exact h
  · exact h
  · exact h
  · trivial

set_option maxHeartbeats 4000000 in
theorem chk_region {id : Nat} {ops : Array Oper} {Q : Exit → Act → World → Prop} {a0 : Act} {w0 : World} (MO MV : Value) (Z : Int) (S : ByteArray) (zs : List Int) (ob mb : Nat) (hB : lowB ops = true) (hsz : ops.size = 28)
    (o0 : OpIn ops 0 (some 24) (.load 29 (.tmp 3)) none []) (o1 : OpIn ops 1 (some 25) (.call { callee := .value (.func 16), args := #[.tmp 24], argTypes := #[29] }) none [0]) (o2 : OpIn ops 2 (some 26) (.load 29 (.tmp 1)) none []) (o3 : OpIn ops 3 (some 27) (.call { callee := .value (.func 17), args := #[.tmp 26], argTypes := #[29] }) none [2]) (o4 : OpIn ops 4 (some 28) (.binOp .eql 31 (.tmp 25) (.tmp 27) 31) none [1, 3]) (o5 : OpIn ops 5 (some 29) (.move (.tmp 28)) none [4]) (o6 : OpIn ops 6 (some 30) (.load 29 (.tmp 3)) (some (5, true)) [5]) (o7 : OpIn ops 7 (some 31) (.call { callee := .value (.func 19), args := #[.tmp 30], argTypes := #[29] }) (some (5, true)) [5, 6]) (o8 : OpIn ops 8 (some 32) (.load 29 (.tmp 1)) (some (5, true)) [5]) (o9 : OpIn ops 9 (some 33) (.call { callee := .value (.func 20), args := #[.tmp 32], argTypes := #[29] }) (some (5, true)) [5, 8]) (o10 : OpIn ops 10 (some 34) (.call { callee := .value (.func 18), args := #[.tmp 31, .tmp 33], argTypes := #[26, 26] }) (some (5, true)) [5, 7, 9]) (o11 : OpIn ops 11 (some 35) (.pick (.tmp 29) (.tmp 34) (.const (.bool false))) none [5, 10]) (o12 : OpIn ops 12 (some 36) (.move (.tmp 35)) none [11]) (o13 : OpIn ops 13 (some 37) (.move (.tmp 4)) (some (12, true)) [12]) (o14 : OpIn ops 14 (some 38) (.move (.tmp 6)) (some (12, true)) [12]) (o15 : OpIn ops 15 (some 39) (.binOp .eql 9 (.tmp 37) (.tmp 38) 9) (some (12, true)) [12, 13, 14]) (o16 : OpIn ops 16 (some 40) (.pick (.tmp 36) (.tmp 39) (.const (.bool false))) none [12, 15]) (o17 : OpIn ops 17 (some 41) (.move (.tmp 40)) none [16]) (o18 : OpIn ops 18 (some 42) (.move (.tmp 5)) (some (17, true)) [17]) (o19 : OpIn ops 19 (some 43) (.move (.tmp 7)) (some (17, true)) [17]) (o20 : OpIn ops 20 (some 44) (.binOp .eql 31 (.tmp 42) (.tmp 43) 31) (some (17, true)) [17, 18, 19]) (o21 : OpIn ops 21 (some 45) (.pick (.tmp 41) (.tmp 44) (.const (.bool false))) none [17, 20]) (o22 : OpIn ops 22 (some 46) (.move (.tmp 45)) none [21]) (o23 : OpIn ops 23 (some 47) (.load 29 (.tmp 3)) (some (22, true)) [22]) (o24 : OpIn ops 24 (some 48) (.load 29 (.tmp 1)) (some (22, true)) [22]) (o25 : OpIn ops 25 (some 49) (.call { callee := .value (.func 21), args := #[.tmp 47, .tmp 48], argTypes := #[29, 29] }) (some (22, true)) [22, 23, 24]) (o26 : OpIn ops 26 (some 50) (.pick (.tmp 46) (.tmp 49) (.const (.bool false))) none [22, 25]) (o27 : OpIn ops 27 (some 2) (.assign (.tmp 50)) none [26])
    (l3 : ∀ W, Below w0.heap.size w0 W → (Instr.loadAt 29 (.pointer (some ⟨ob, 0, none⟩))).run Try.prog W = .ok MO W) (l1 : ∀ W, Below w0.heap.size w0 W → (Instr.loadAt 29 (.pointer (some ⟨mb, 0, none⟩))).run Try.prog W = .ok MV W)
    (k16 : ∀ W, Below w0.heap.size w0 W → Calls Try.prog 16 #[MO] W fun e W' => e = .returned (.int .i64 Z) ∧ Below W.heap.size W W') (k17 : ∀ W, Below w0.heap.size w0 W → Calls Try.prog 17 #[MV] W fun e W' => e = .returned (.int .i64 Z) ∧ Below W.heap.size W W')
    (k19 : ∀ W, Below w0.heap.size w0 W → Calls Try.prog 19 #[MO] W fun e W' => ∃ s : SL, e = .returned (.slice s.a s.n s.c) ∧ IsS W' s zs ∧ Below W.heap.size W W') (k20 : ∀ W, Below w0.heap.size w0 W → Calls Try.prog 20 #[MV] W fun e W' => ∃ s : SL, e = .returned (.slice s.a s.n s.c) ∧ IsS W' s zs ∧ Below W.heap.size W W')
    (k21 : ∀ W, Below w0.heap.size w0 W → Calls Try.prog 21 #[MO, MV] W fun e W' => e = .returned (.bool true) ∧ Below W.heap.size W W')
    (h3 : a0.tmps.getD 3 undef = .pointer (some ⟨ob, 0, none⟩)) (h1 : a0.tmps.getD 1 undef = .pointer (some ⟨mb, 0, none⟩)) (h4 : a0.tmps.getD 4 undef = .string S) (h6 : a0.tmps.getD 6 undef = .string S) (h5 : a0.tmps.getD 5 undef = .int .i64 Z) (h7 : a0.tmps.getD 7 undef = .int .i64 Z) (hs : 51 ≤ a0.tmps.size)
    (fin : ∀ a w, a.tmps.size = a0.tmps.size → a.defers = a0.defers → (∀ s, (∀ i, i < 28 → ckD i ≠ some s) → a.tmps.getD s undef = a0.tmps.getD s undef) → a.tmps.getD 2 undef = .bool true → Below w0.heap.size w0 w → Q .normal a w) : (Code.region id ops true).wp Try.prog Q a0 w0 := by
  have r16 : ∀ args w, (callFunc 16 args).run Try.prog w = .ok (.enter 16 args) w := enters Try.func16 (by kernel_rfl) rfl
  have r17 : ∀ args w, (callFunc 17 args).run Try.prog w = .ok (.enter 17 args) w := enters Try.func17 (by kernel_rfl) rfl
  have r18 : ∀ args w, (callFunc 18 args).run Try.prog w = .ok (.enter 18 args) w := enters Try.func18 (by kernel_rfl) rfl
  have r19 : ∀ args w, (callFunc 19 args).run Try.prog w = .ok (.enter 19 args) w := enters Try.func19 (by kernel_rfl) rfl
  have r20 : ∀ args w, (callFunc 20 args).run Try.prog w = .ok (.enter 20 args) w := enters Try.func20 (by kernel_rfl) rfl
  have r21 : ∀ args w, (callFunc 21 args).run Try.prog w = .ok (.enter 21 args) w := enters Try.func21 (by kernel_rfl) rfl
  have oo5 := o5
  have oo12 := o12
  have oo17 := o17
  have oo22 := o22
  obtain ⟨g5, g5a, g5b, -⟩ := o5
  obtain ⟨g12, g12a, g12b, -⟩ := o12
  obtain ⟨g17, g17a, g17b, -⟩ := o17
  obtain ⟨g22, g22a, g22b, -⟩ := o22
  refine wp_region_inv (by kernel_rfl) hB (Inv 28 ckD a0 (fun _ _ w => Below w0.heap.size w0 w) (fun _ => ckF MO MV Z S zs)) (Inv.start (below_drew (Below.refl _ _) ⟨1, rfl⟩)) ?_ ?_
  · intro l i o a w ho hl hdep hI
    have hi : i < 28 := by rw [← hsz]; exact (Array.getElem?_eq_some_iff.1 ho).1
    have hb := hI.world
    have asz := hI.size
    have inj : ∀ d, ckD i = some d → ∀ j d', j < 28 → ckD j = some d' → j ≠ i → d' ≠ d := fun d hd j d' hj hd' hne e => hne (ckD_inj j hj i hi (by rw [hd, hd', e]) (by rw [hd']; simp))
    have ev : ∀ (s : Nat), a.eval (.tmp s) = a.tmps.getD s undef := fun _ => rfl
    have ke : ∀ s, (∀ i, i < 28 → ckD i ≠ some s) → a.tmps.getD s undef = a0.tmps.getD s undef := fun s hs => hI.kept s hs
    have fe : ∀ f, a.eval (.func f) = .func (.func f) #[] #[] := fun _ => rfl
    have newW : ∀ {d v w'}, ckD i = some d → d < 51 → Below w.heap.size w w' → ckF MO MV Z S zs i v w' → Inv 28 ckD a0 (fun _ _ w => Below w0.heap.size w0 w) (fun _ => ckF MO MV Z S zs) (fun j => l j || j == i) (a.put (some d) v) w' := fun hD hd hw hF => hI.put hi hD (by omega) (inj _ hD) (below_then hb hw) hF fun j u _ _ _ hf => ckF_below hf hw
    have pure_ : ∀ {d v}, ckD i = some d → d < 51 → ckF MO MV Z S zs i v w → Inv 28 ckD a0 (fun _ _ w => Below w0.heap.size w0 w) (fun _ => ckF MO MV Z S zs) (fun j => l j || j == i) (a.put (some d) v) w := fun hD hd hF => newW hD hd (Below.refl _ _) hF
    rcases (show i = 0 ∨ i = 1 ∨ i = 2 ∨ i = 3 ∨ i = 4 ∨ i = 5 ∨ i = 6 ∨ i = 7 ∨ i = 8 ∨ i = 9 ∨ i = 10 ∨ i = 11 ∨ i = 12 ∨ i = 13 ∨ i = 14 ∨ i = 15 ∨ i = 16 ∨ i = 17 ∨ i = 18 ∨ i = 19 ∨ i = 20 ∨ i = 21 ∨ i = 22 ∨ i = 23 ∨ i = 24 ∨ i = 25 ∨ i = 26 ∨ i = 27 by omega) with rfl | rfl | rfl | rfl | rfl | rfl | rfl | rfl | rfl | rfl | rfl | rfl | rfl | rfl | rfl | rfl | rfl | rfl | rfl | rfl | rfl | rfl | rfl | rfl | rfl | rfl | rfl | rfl
    · obtain ⟨o', e1, e2, e3, e4, e5⟩ := o0
      obtain rfl := Option.some.inj (ho.symm.trans e1)
      have dp := dep_of (ops := ops) e5 hdep
      have ev3 : a.tmps.getD 3 undef = .pointer (some ⟨ob, 0, none⟩) := (ke 3 (by decide)).trans h3
      refine wpOp_value (v := MO) (w' := w) ho e4 ?_ (by rw [e2]; exact pure_ rfl (by decide) rfl)
      simp [execOp, e3, ev, ev3, l3 w hb]
    · obtain ⟨o', e1, e2, e3, e4, e5⟩ := o1
      obtain rfl := Option.some.inj (ho.symm.trans e1)
      have dp := dep_of (ops := ops) e5 hdep
      have ev24 : a.tmps.getD 24 undef = MO := hI.val 0 24 (by decide) rfl (dp 0 (by decide))
      refine wpOp_call (f := 16) (args := #[MO]) ho e4 ?_ ((k16 w hb).mono fun e w' hh => ⟨_, hh.1, by rw [e2]; exact newW rfl (by decide) hh.2 rfl⟩)
      simp [execOp, e3, resolve, invoke, ev, ev24, Deferred.ofValue, r16, fe]
    · obtain ⟨o', e1, e2, e3, e4, e5⟩ := o2
      obtain rfl := Option.some.inj (ho.symm.trans e1)
      have dp := dep_of (ops := ops) e5 hdep
      have ev1 : a.tmps.getD 1 undef = .pointer (some ⟨mb, 0, none⟩) := (ke 1 (by decide)).trans h1
      refine wpOp_value (v := MV) (w' := w) ho e4 ?_ (by rw [e2]; exact pure_ rfl (by decide) rfl)
      simp [execOp, e3, ev, ev1, l1 w hb]
    · obtain ⟨o', e1, e2, e3, e4, e5⟩ := o3
      obtain rfl := Option.some.inj (ho.symm.trans e1)
      have dp := dep_of (ops := ops) e5 hdep
      have ev26 : a.tmps.getD 26 undef = MV := hI.val 2 26 (by decide) rfl (dp 2 (by decide))
      refine wpOp_call (f := 17) (args := #[MV]) ho e4 ?_ ((k17 w hb).mono fun e w' hh => ⟨_, hh.1, by rw [e2]; exact newW rfl (by decide) hh.2 rfl⟩)
      simp [execOp, e3, resolve, invoke, ev, ev26, Deferred.ofValue, r17, fe]
    · obtain ⟨o', e1, e2, e3, e4, e5⟩ := o4
      obtain rfl := Option.some.inj (ho.symm.trans e1)
      have dp := dep_of (ops := ops) e5 hdep
      have ev25 : a.tmps.getD 25 undef = .int .i64 Z := hI.val 1 25 (by decide) rfl (dp 1 (by decide))
      have ev27 : a.tmps.getD 27 undef = .int .i64 Z := hI.val 3 27 (by decide) rfl (dp 3 (by decide))
      refine wpOp_value (v := .bool true) (w' := w) ho e4 ?_ (by rw [e2]; exact pure_ rfl (by decide) rfl)
      simp [execOp, e3, ev, ev25, ev27, eqGuard, run_eql31]
    · obtain ⟨o', e1, e2, e3, e4, e5⟩ := oo5
      obtain rfl := Option.some.inj (ho.symm.trans e1)
      have dp := dep_of (ops := ops) e5 hdep
      have ev28 : a.tmps.getD 28 undef = .bool true := hI.val 4 28 (by decide) rfl (dp 4 (by decide))
      refine wpOp_value (v := .bool true) (w' := w) ho e4 ?_ (by rw [e2]; exact pure_ rfl (by decide) rfl)
      simp [execOp, e3, ev, ev28]
    · obtain ⟨o', e1, e2, e3, e4, e5⟩ := o6
      obtain rfl := Option.some.inj (ho.symm.trans e1)
      have dp := dep_of (ops := ops) e5 hdep
      have ev3 : a.tmps.getD 3 undef = .pointer (some ⟨ob, 0, none⟩) := (ke 3 (by decide)).trans h3
      have evg : a.tmps.getD 29 undef = .bool true := hI.val 5 29 (by decide) rfl (dp 5 (by decide))
      refine wpOp_value_g (v := MO) (w' := w) ho e4 g5a g5b (by omega) evg ?_ (by rw [e2]; exact pure_ rfl (by decide) rfl)
      simp [execOp, e3, ev, ev3, l3 w hb]
    · obtain ⟨o', e1, e2, e3, e4, e5⟩ := o7
      obtain rfl := Option.some.inj (ho.symm.trans e1)
      have dp := dep_of (ops := ops) e5 hdep
      have ev30 : a.tmps.getD 30 undef = MO := hI.val 6 30 (by decide) rfl (dp 6 (by decide))
      have evg : a.tmps.getD 29 undef = .bool true := hI.val 5 29 (by decide) rfl (dp 5 (by decide))
      refine wpOp_call_g (f := 19) (args := #[MO]) ho e4 g5a g5b (by omega) evg ?_ ((k19 w hb).mono fun e w' hh => by obtain ⟨s, q1, q2, q3⟩ := hh; exact ⟨_, q1, by rw [e2]; exact newW rfl (by decide) q3 ⟨s, rfl, q2⟩⟩)
      simp [execOp, e3, resolve, invoke, ev, ev30, Deferred.ofValue, r19, fe]
    · obtain ⟨o', e1, e2, e3, e4, e5⟩ := o8
      obtain rfl := Option.some.inj (ho.symm.trans e1)
      have dp := dep_of (ops := ops) e5 hdep
      have ev1 : a.tmps.getD 1 undef = .pointer (some ⟨mb, 0, none⟩) := (ke 1 (by decide)).trans h1
      have evg : a.tmps.getD 29 undef = .bool true := hI.val 5 29 (by decide) rfl (dp 5 (by decide))
      refine wpOp_value_g (v := MV) (w' := w) ho e4 g5a g5b (by omega) evg ?_ (by rw [e2]; exact pure_ rfl (by decide) rfl)
      simp [execOp, e3, ev, ev1, l1 w hb]
    · obtain ⟨o', e1, e2, e3, e4, e5⟩ := o9
      obtain rfl := Option.some.inj (ho.symm.trans e1)
      have dp := dep_of (ops := ops) e5 hdep
      have ev32 : a.tmps.getD 32 undef = MV := hI.val 8 32 (by decide) rfl (dp 8 (by decide))
      have evg : a.tmps.getD 29 undef = .bool true := hI.val 5 29 (by decide) rfl (dp 5 (by decide))
      refine wpOp_call_g (f := 20) (args := #[MV]) ho e4 g5a g5b (by omega) evg ?_ ((k20 w hb).mono fun e w' hh => by obtain ⟨s, q1, q2, q3⟩ := hh; exact ⟨_, q1, by rw [e2]; exact newW rfl (by decide) q3 ⟨s, rfl, q2⟩⟩)
      simp [execOp, e3, resolve, invoke, ev, ev32, Deferred.ofValue, r20, fe]
    · obtain ⟨o', e1, e2, e3, e4, e5⟩ := o10
      obtain rfl := Option.some.inj (ho.symm.trans e1)
      have dp := dep_of (ops := ops) e5 hdep
      obtain ⟨s31, ev31, is31⟩ := hI.val 7 31 (by decide) rfl (dp 7 (by decide))
      obtain ⟨s33, ev33, is33⟩ := hI.val 9 33 (by decide) rfl (dp 9 (by decide))
      have evg : a.tmps.getD 29 undef = .bool true := hI.val 5 29 (by decide) rfl (dp 5 (by decide))
      refine wpOp_call_g (f := 18) (args := #[.slice s31.a s31.n s31.c, .slice s33.a s33.n s33.c]) ho e4 g5a g5b (by omega) evg ?_ ((same_call _ _ _ zs _ _ _ w is31.reads is33.reads).mono fun e w' hh => by obtain ⟨q1, mm, q2⟩ := hh; exact ⟨_, q1, by rw [e2]; exact newW rfl (by decide) (by rw [q2]; exact below_drew (Below.refl _ _) ⟨_, rfl⟩) rfl⟩)
      simp [execOp, e3, resolve, invoke, ev, ev31, ev33, Deferred.ofValue, r18, fe]
    · obtain ⟨o', e1, e2, e3, e4, e5⟩ := o11
      obtain rfl := Option.some.inj (ho.symm.trans e1)
      have dp := dep_of (ops := ops) e5 hdep
      have ev29 : a.tmps.getD 29 undef = .bool true := hI.val 5 29 (by decide) rfl (dp 5 (by decide))
      have ev34 : a.tmps.getD 34 undef = .bool true := hI.val 10 34 (by decide) rfl (dp 10 (by decide))
      refine wpOp_value (v := .bool true) (w' := w) ho e4 ?_ (by rw [e2]; exact pure_ rfl (by decide) rfl)
      simp [execOp, e3, ev, ev29, ev34, asBool]
    · obtain ⟨o', e1, e2, e3, e4, e5⟩ := oo12
      obtain rfl := Option.some.inj (ho.symm.trans e1)
      have dp := dep_of (ops := ops) e5 hdep
      have ev35 : a.tmps.getD 35 undef = .bool true := hI.val 11 35 (by decide) rfl (dp 11 (by decide))
      refine wpOp_value (v := .bool true) (w' := w) ho e4 ?_ (by rw [e2]; exact pure_ rfl (by decide) rfl)
      simp [execOp, e3, ev, ev35]
    · obtain ⟨o', e1, e2, e3, e4, e5⟩ := o13
      obtain rfl := Option.some.inj (ho.symm.trans e1)
      have dp := dep_of (ops := ops) e5 hdep
      have ev4 : a.tmps.getD 4 undef = .string S := (ke 4 (by decide)).trans h4
      have evg : a.tmps.getD 36 undef = .bool true := hI.val 12 36 (by decide) rfl (dp 12 (by decide))
      refine wpOp_value_g (v := .string S) (w' := w) ho e4 g12a g12b (by omega) evg ?_ (by rw [e2]; exact pure_ rfl (by decide) rfl)
      simp [execOp, e3, ev, ev4]
    · obtain ⟨o', e1, e2, e3, e4, e5⟩ := o14
      obtain rfl := Option.some.inj (ho.symm.trans e1)
      have dp := dep_of (ops := ops) e5 hdep
      have ev6 : a.tmps.getD 6 undef = .string S := (ke 6 (by decide)).trans h6
      have evg : a.tmps.getD 36 undef = .bool true := hI.val 12 36 (by decide) rfl (dp 12 (by decide))
      refine wpOp_value_g (v := .string S) (w' := w) ho e4 g12a g12b (by omega) evg ?_ (by rw [e2]; exact pure_ rfl (by decide) rfl)
      simp [execOp, e3, ev, ev6]
    · obtain ⟨o', e1, e2, e3, e4, e5⟩ := o15
      obtain rfl := Option.some.inj (ho.symm.trans e1)
      have dp := dep_of (ops := ops) e5 hdep
      have ev37 : a.tmps.getD 37 undef = .string S := hI.val 13 37 (by decide) rfl (dp 13 (by decide))
      have ev38 : a.tmps.getD 38 undef = .string S := hI.val 14 38 (by decide) rfl (dp 14 (by decide))
      have evg : a.tmps.getD 36 undef = .bool true := hI.val 12 36 (by decide) rfl (dp 12 (by decide))
      refine wpOp_value_g (v := .bool true) (w' := w) ho e4 g12a g12b (by omega) evg ?_ (by rw [e2]; exact pure_ rfl (by decide) rfl)
      simp [execOp, e3, ev, ev37, ev38, eqGuard, run_eql9]
    · obtain ⟨o', e1, e2, e3, e4, e5⟩ := o16
      obtain rfl := Option.some.inj (ho.symm.trans e1)
      have dp := dep_of (ops := ops) e5 hdep
      have ev36 : a.tmps.getD 36 undef = .bool true := hI.val 12 36 (by decide) rfl (dp 12 (by decide))
      have ev39 : a.tmps.getD 39 undef = .bool true := hI.val 15 39 (by decide) rfl (dp 15 (by decide))
      refine wpOp_value (v := .bool true) (w' := w) ho e4 ?_ (by rw [e2]; exact pure_ rfl (by decide) rfl)
      simp [execOp, e3, ev, ev36, ev39, asBool]
    · obtain ⟨o', e1, e2, e3, e4, e5⟩ := oo17
      obtain rfl := Option.some.inj (ho.symm.trans e1)
      have dp := dep_of (ops := ops) e5 hdep
      have ev40 : a.tmps.getD 40 undef = .bool true := hI.val 16 40 (by decide) rfl (dp 16 (by decide))
      refine wpOp_value (v := .bool true) (w' := w) ho e4 ?_ (by rw [e2]; exact pure_ rfl (by decide) rfl)
      simp [execOp, e3, ev, ev40]
    · obtain ⟨o', e1, e2, e3, e4, e5⟩ := o18
      obtain rfl := Option.some.inj (ho.symm.trans e1)
      have dp := dep_of (ops := ops) e5 hdep
      have ev5 : a.tmps.getD 5 undef = .int .i64 Z := (ke 5 (by decide)).trans h5
      have evg : a.tmps.getD 41 undef = .bool true := hI.val 17 41 (by decide) rfl (dp 17 (by decide))
      refine wpOp_value_g (v := .int .i64 Z) (w' := w) ho e4 g17a g17b (by omega) evg ?_ (by rw [e2]; exact pure_ rfl (by decide) rfl)
      simp [execOp, e3, ev, ev5]
    · obtain ⟨o', e1, e2, e3, e4, e5⟩ := o19
      obtain rfl := Option.some.inj (ho.symm.trans e1)
      have dp := dep_of (ops := ops) e5 hdep
      have ev7 : a.tmps.getD 7 undef = .int .i64 Z := (ke 7 (by decide)).trans h7
      have evg : a.tmps.getD 41 undef = .bool true := hI.val 17 41 (by decide) rfl (dp 17 (by decide))
      refine wpOp_value_g (v := .int .i64 Z) (w' := w) ho e4 g17a g17b (by omega) evg ?_ (by rw [e2]; exact pure_ rfl (by decide) rfl)
      simp [execOp, e3, ev, ev7]
    · obtain ⟨o', e1, e2, e3, e4, e5⟩ := o20
      obtain rfl := Option.some.inj (ho.symm.trans e1)
      have dp := dep_of (ops := ops) e5 hdep
      have ev42 : a.tmps.getD 42 undef = .int .i64 Z := hI.val 18 42 (by decide) rfl (dp 18 (by decide))
      have ev43 : a.tmps.getD 43 undef = .int .i64 Z := hI.val 19 43 (by decide) rfl (dp 19 (by decide))
      have evg : a.tmps.getD 41 undef = .bool true := hI.val 17 41 (by decide) rfl (dp 17 (by decide))
      refine wpOp_value_g (v := .bool true) (w' := w) ho e4 g17a g17b (by omega) evg ?_ (by rw [e2]; exact pure_ rfl (by decide) rfl)
      simp [execOp, e3, ev, ev42, ev43, eqGuard, run_eql31]
    · obtain ⟨o', e1, e2, e3, e4, e5⟩ := o21
      obtain rfl := Option.some.inj (ho.symm.trans e1)
      have dp := dep_of (ops := ops) e5 hdep
      have ev41 : a.tmps.getD 41 undef = .bool true := hI.val 17 41 (by decide) rfl (dp 17 (by decide))
      have ev44 : a.tmps.getD 44 undef = .bool true := hI.val 20 44 (by decide) rfl (dp 20 (by decide))
      refine wpOp_value (v := .bool true) (w' := w) ho e4 ?_ (by rw [e2]; exact pure_ rfl (by decide) rfl)
      simp [execOp, e3, ev, ev41, ev44, asBool]
    · obtain ⟨o', e1, e2, e3, e4, e5⟩ := oo22
      obtain rfl := Option.some.inj (ho.symm.trans e1)
      have dp := dep_of (ops := ops) e5 hdep
      have ev45 : a.tmps.getD 45 undef = .bool true := hI.val 21 45 (by decide) rfl (dp 21 (by decide))
      refine wpOp_value (v := .bool true) (w' := w) ho e4 ?_ (by rw [e2]; exact pure_ rfl (by decide) rfl)
      simp [execOp, e3, ev, ev45]
    · obtain ⟨o', e1, e2, e3, e4, e5⟩ := o23
      obtain rfl := Option.some.inj (ho.symm.trans e1)
      have dp := dep_of (ops := ops) e5 hdep
      have ev3 : a.tmps.getD 3 undef = .pointer (some ⟨ob, 0, none⟩) := (ke 3 (by decide)).trans h3
      have evg : a.tmps.getD 46 undef = .bool true := hI.val 22 46 (by decide) rfl (dp 22 (by decide))
      refine wpOp_value_g (v := MO) (w' := w) ho e4 g22a g22b (by omega) evg ?_ (by rw [e2]; exact pure_ rfl (by decide) rfl)
      simp [execOp, e3, ev, ev3, l3 w hb]
    · obtain ⟨o', e1, e2, e3, e4, e5⟩ := o24
      obtain rfl := Option.some.inj (ho.symm.trans e1)
      have dp := dep_of (ops := ops) e5 hdep
      have ev1 : a.tmps.getD 1 undef = .pointer (some ⟨mb, 0, none⟩) := (ke 1 (by decide)).trans h1
      have evg : a.tmps.getD 46 undef = .bool true := hI.val 22 46 (by decide) rfl (dp 22 (by decide))
      refine wpOp_value_g (v := MV) (w' := w) ho e4 g22a g22b (by omega) evg ?_ (by rw [e2]; exact pure_ rfl (by decide) rfl)
      simp [execOp, e3, ev, ev1, l1 w hb]
    · obtain ⟨o', e1, e2, e3, e4, e5⟩ := o25
      obtain rfl := Option.some.inj (ho.symm.trans e1)
      have dp := dep_of (ops := ops) e5 hdep
      have ev47 : a.tmps.getD 47 undef = MO := hI.val 23 47 (by decide) rfl (dp 23 (by decide))
      have ev48 : a.tmps.getD 48 undef = MV := hI.val 24 48 (by decide) rfl (dp 24 (by decide))
      have evg : a.tmps.getD 46 undef = .bool true := hI.val 22 46 (by decide) rfl (dp 22 (by decide))
      refine wpOp_call_g (f := 21) (args := #[MO, MV]) ho e4 g22a g22b (by omega) evg ?_ ((k21 w hb).mono fun e w' hh => ⟨_, hh.1, by rw [e2]; exact newW rfl (by decide) hh.2 rfl⟩)
      simp [execOp, e3, resolve, invoke, ev, ev47, ev48, Deferred.ofValue, r21, fe]
    · obtain ⟨o', e1, e2, e3, e4, e5⟩ := o26
      obtain rfl := Option.some.inj (ho.symm.trans e1)
      have dp := dep_of (ops := ops) e5 hdep
      have ev46 : a.tmps.getD 46 undef = .bool true := hI.val 22 46 (by decide) rfl (dp 22 (by decide))
      have ev49 : a.tmps.getD 49 undef = .bool true := hI.val 25 49 (by decide) rfl (dp 25 (by decide))
      refine wpOp_value (v := .bool true) (w' := w) ho e4 ?_ (by rw [e2]; exact pure_ rfl (by decide) rfl)
      simp [execOp, e3, ev, ev46, ev49, asBool]
    · obtain ⟨o', e1, e2, e3, e4, e5⟩ := o27
      obtain rfl := Option.some.inj (ho.symm.trans e1)
      have dp := dep_of (ops := ops) e5 hdep
      have ev50 : a.tmps.getD 50 undef = .bool true := hI.val 26 50 (by decide) rfl (dp 26 (by decide))
      refine wpOp_value (v := .bool true) (w' := w) ho e4 ?_ (by rw [e2]; exact pure_ rfl (by decide) rfl)
      simp [execOp, e3, ev, ev50]
  · intro l a w hall hI
    exact fin a w hI.size hI.defers hI.kept (hI.val 27 2 (by decide) rfl (hall 27 (by omega))) hI.world

end Go.Proofs.Ytjbeloljbjfibaa
