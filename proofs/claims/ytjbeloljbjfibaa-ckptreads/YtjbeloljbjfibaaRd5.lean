/- CkptReads: the region that shapes a copy of the weights, whatever order it draws. -/
import Derived.Test.YtjbeloljbjfibaaRows
import Derived.Test.YtjbeloljbjfibaaLayer8
import Derived.Test.YtjbeloljbjfibaaConf
import Derived.Test.YtjbeloljbjfibaaBlank
import Derived.Test.YtjbeloljbjfibaaCfgRef
import Derived.Test.YtjbeloljbjfibaaSize
import Derived.Test.YtjbeloljbjfibaaSizes
import Derived.Test.YtjbeloljbjfibaaSteps
import Derived.Test.YtjbeloljbjfibaaClo54
import Derived.Test.YtjbeloljbjfibaaFill
import Derived.Test.YtjbeloljbjfibaaMods
import Derived.Test.YtjbeloljbjfibaaFills
import Derived.Test.YtjbeloljbjfibaaShape
import Derived.Test.YtjbeloljbjfibaaShapes
import Derived.Test.YtjbeloljbjfibaaCheck
import Derived.Test.YtjbeloljbjfibaaChecks
import Derived.Test.YtjbeloljbjfibaaDims
import Derived.Test.YtjbeloljbjfibaaFlat
import Derived.Test.YtjbeloljbjfibaaNumbers
import Derived.Test.YtjbeloljbjfibaaPrefix
import Derived.Test.YtjbeloljbjfibaaBody
import Derived.Test.YtjbeloljbjfibaaDecode
import Derived.WalkKit
import Derived.ProofKit
import Derived.OpenShut
import Derived.Below
import Derived.WalkLawsBesides
import Derived.Deep.QuietTactic
import Derived.BigQuiet
import Derived.Deep.RegionWith
import Derived.Deep.RegionHeld3
import Derived.Deep.OwnRows
import Derived.Deep.Slices
import Derived.Test.YtjbeloljbjfibaaTrips
import Derived.Test.YtjbeloljbjfibaaInv
import Derived.Test.YtjbeloljbjfibaaBuild
import Derived.Test.YtjbeloljbjfibaaTypedC
import Derived.Test.YtjbeloljbjfibaaEqWorks
import Derived.Test.YtjbeloljbjfibaaCuts
import Derived.Test.YtjbeloljbjfibaaSameLM
import Derived.Test.YtjbeloljbjfibaaOwns
import Derived.Test.YtjbeloljbjfibaaJoin
import Derived.Test.YtjbeloljbjfibaaShp
import Derived.Test.YtjbeloljbjfibaaReadsA
import Derived.Test.YtjbeloljbjfibaaMore
namespace Go.Proofs.Ytjbeloljbjfibaa
open Go.ChangeShapes Go.WideShapes Go.ChangeAt Go.RowKit
set_option linter.unusedVariables false

def mdl (c0 c1 c2 c3 c4 c5 c6 c7 : Int) (E L N O : SL) : Array Value := #[.int .i64 c0, .int .i64 c1, .int .i64 c2, .int .i64 c3, .int .i64 c4, .int .i64 c5, .int .i64 c6, .int .i64 c7, .slice E.a E.n E.c, .slice L.a L.n L.c, .slice N.a N.n N.c, .slice O.a O.n O.c]

theorem run_store29x {w : World} {b : Nat} (q : Blk 29 w b zeroC) (c0 c1 c2 c3 c4 c5 c6 c7 : Int) (E L N O : SL) : ∃ w', (Instr.storeAt 29 (.pointer (some ⟨b, 0, none⟩)) (.agg (mdl c0 c1 c2 c3 c4 c5 c6 c7 E L N O))).run Try.prog w = .ok () w' ∧ Blk 29 w' b (mdl c0 c1 c2 c3 c4 c5 c6 c7 E L N O) ∧ Only b w w' := by
  have q' : Blk 29 w b #[.int .i64 0, .int .i64 0, .int .i64 0, .int .i64 0, .int .i64 0, .int .i64 0, .int .i64 0, .int .i64 0, nilS, nilS, nilS, nilS] := q
  obtain ⟨z0, z1, z2, z3, z4, z5, z6, z7, z8, z9, z10, z11⟩ := q'.c12
  obtain ⟨o0, o1, o2, o3, o4, o5, o6, o7, o8, o9, o10, o11⟩ := q'.o12
  obtain ⟨W6, eW, q6, only, hz⟩ := set12 q' (.int .i64 c0) (.int .i64 c1) (.int .i64 c2) (.int .i64 c3) (.int .i64 c4) (.int .i64 c5) (.int .i64 c6) (.int .i64 c7) (.slice E.a E.n E.c) (.slice L.a L.n L.c) (.slice N.a N.n N.c) (.slice O.a O.n O.c)
  refine ⟨W6, ?_, q6, only⟩
  rw [← eW]
  unfold mdl
  clear eW q6 only hz q q'
  go_simp

/-- a model that block b has nothing of -/
def ModBut (b : Nat) (w : World) (E L N O : SL) (Y U D : Nat → Nat → SL) (m : ModV) : Prop := ∀ w', (∀ p v, w.cell? p = some v → p.block ≠ b → w'.cell? p = some v) → ModAt w' E L N O Y U D m
theorem ModBut.below {b : Nat} {w w' : World} {E L N O : SL} {Y U D : Nat → Nat → SL} {m : ModV} (h : ModBut b w E L N O Y U D m) (hb : Below w.heap.size w w') : ModBut b w' E L N O Y U D m :=
  fun w'' hc => h w'' fun p v hp hne => hc p v ((hb.cell (World.block_lt_of_cell? w _ hp)).trans hp) hne
theorem ModBut.of_new {b B : Nat} {w : World} {E L N O : SL} {Y U D : Nat → Nat → SL} {m : ModV} (h : NewM B w E L N O Y U D m) (hb : b < B) : ModBut b w E L N O Y U D m := fun w' hc => h w' fun p v hp hle => hc p v hp (by omega)
theorem ModBut.fresh {B : Nat} {w : World} {o : Obj} {E L N O : SL} {Y U D : Nat → Nat → SL} {m : ModV} (h : NewM B w E L N O Y U D m) : ModBut w.heap.size (w.alloc o) E L N O Y U D m := fun w' hc => h w' fun p v hp _ =>
  have hlt := World.block_lt_of_cell? w _ hp
  hc p v (((below_new (Below.refl w.heap.size w) o).cell hlt).trans hp) (by omega)
theorem ModBut.stored {b : Nat} {w w' : World} {E L N O : SL} {Y U D : Nat → Nat → SL} {m : ModV} (h : ModBut b w E L N O Y U D m) (o : Only b w w') : NewM 0 w' E L N O Y U D m := fun w'' hc => h w'' fun p v hp hne => hc p v (o.cell hp (fun e => hne (by simpa using e))) (Nat.zero_le _)

def rdD (i : Nat) : Option Nat := match i with | 0 => some 29 | 1 => some 30 | 2 => some 31 | 3 => some 32 | 4 => some 33 | 5 => some 28 | 6 => some 34 | 7 => some 35 | 8 => some 11 | 10 => some 12 | _ => none
theorem rdD_inj : ∀ i, i < 11 → ∀ j, j < 11 → rdD i = rdD j → rdD i ≠ none → i = j := by decide
theorem rdD_out {s : Nat} (h : s ∉ [29, 30, 31, 32, 33, 28, 34, 35, 11, 12]) : ∀ j, j < 11 → rdD j ≠ some s := by
  intro j hj e
  apply h
  have H : ∀ j, j < 11 → (match rdD j with | some s => decide (s ∈ [29, 30, 31, 32, 33, 28, 34, 35, 11, 12]) | none => true) = true := by decide
  have := H j hj
  rw [e] at this
  simpa using this

def rdF (CV : Value) (B : Nat) (s : SL) (zs : List Int) (g : Int) (i : Nat) (q : Value) (w : World) : Prop := match i with
  | 0 => q = CV
  | 1 => ∃ g, q = .slice (some ⟨g, 0, none⟩) 0 0 ∧ B ≤ g ∧ Blk 46 w g #[]
  | 2 => q = .slice s.a s.n s.c
  | 3 => ∃ s' : SL, q = .slice s'.a s'.n s'.c ∧ TS B w s' zs
  | 7 => q = .int .i64 g
  | 10 => q = .int .i64 g
  | _ => True

theorem rdF_step {CV : Value} {B : Nat} {s : SL} {zs : List Int} {g : Int} {i : Nat} {q : Value} {w w' : World} (h : rdF CV B s zs g i q w) (k46 : Keeps 46 w w') : rdF CV B s zs g i q w' := by
  unfold rdF at h ⊢
  split
  · exact h
  · obtain ⟨g, e1, e2, e3⟩ := h
    exact ⟨g, e1, e2, k46.blk e3⟩
  · exact h
  · obtain ⟨s', e1, e2⟩ := h
    exact ⟨s', e1, e2.step k46⟩
  · exact h
  · exact h
  · trivial

/-- the model that is answered, and the block it is put into -/
structure RdM (c0 c1 c2 c3 c4 c5 c6 c7 g : Int) (m : ModV) (B : Nat) (l : Nat → Bool) (a : Act) (w : World) (E L N O : SL) (Y U D : Nat → Nat → SL) : Prop where
  v33 : a.tmps.getD 33 undef = .tuple #[.agg (mdl c0 c1 c2 c3 c4 c5 c6 c7 E L N O), .int .i64 g]
  v28 : l 5 = true → a.tmps.getD 28 undef = .tuple #[.agg (mdl c0 c1 c2 c3 c4 c5 c6 c7 E L N O), .int .i64 g]
  v34 : l 6 = true → a.tmps.getD 34 undef = .agg (mdl c0 c1 c2 c3 c4 c5 c6 c7 E L N O)
  n8 : l 8 = false → NewM 0 w E L N O Y U D m
  y8 : l 8 = true → ∃ b, a.tmps.getD 11 undef = .pointer (some ⟨b, 0, none⟩) ∧ B ≤ b ∧ (l 9 = false → Blk 29 w b zeroC ∧ ModBut b w E L N O Y U D m) ∧ (l 9 = true → Blk 29 w b (mdl c0 c1 c2 c3 c4 c5 c6 c7 E L N O) ∧ NewM 0 w E L N O Y U D m)

structure RdR (c0 c1 c2 c3 c4 c5 c6 c7 g : Int) (m : ModV) (w0 : World) (l : Nat → Bool) (a : Act) (w : World) : Prop where
  below : Below w0.heap.size w0 w
  alone : l 4 = false → l 8 = true → ∃ b, a.tmps.getD 11 undef = .pointer (some ⟨b, 0, none⟩) ∧ w0.heap.size ≤ b ∧ Blk 29 w b zeroC
  mod : l 4 = true → ∃ E L N O Y U D, RdM c0 c1 c2 c3 c4 c5 c6 c7 g m w0.heap.size l a w E L N O Y U D
  d9 : l 9 = true → l 8 = true ∧ l 4 = true
  d5 : l 5 = true → l 4 = true
  d6 : l 6 = true → l 4 = true

theorem RdR.keep {c0 c1 c2 c3 c4 c5 c6 c7 g : Int} {m : ModV} {w0 : World} {l l' : Nat → Bool} {a a' : Act} {w w' : World} (h : RdR c0 c1 c2 c3 c4 c5 c6 c7 g m w0 l a w) (hw : Below w.heap.size w w') (e4 : l' 4 = l 4) (e5 : l' 5 = l 5) (e6 : l' 6 = l 6) (e8 : l' 8 = l 8) (e9 : l' 9 = l 9)
    (k33 : a'.tmps.getD 33 undef = a.tmps.getD 33 undef) (k28 : a'.tmps.getD 28 undef = a.tmps.getD 28 undef) (k34 : a'.tmps.getD 34 undef = a.tmps.getD 34 undef) (k11 : a'.tmps.getD 11 undef = a.tmps.getD 11 undef) : RdR c0 c1 c2 c3 c4 c5 c6 c7 g m w0 l' a' w' := by
  refine ⟨below_then h.below hw, fun h4 h8 => ?_, fun h4 => ?_, fun h9 => by rw [e8, e4]; exact h.d9 (by rw [← e9]; exact h9), fun h5 => by rw [e4]; exact h.d5 (by rw [← e5]; exact h5), fun h6 => by rw [e4]; exact h.d6 (by rw [← e6]; exact h6)⟩
  · obtain ⟨b, p1, p2, p3⟩ := h.alone (by rw [← e4]; exact h4) (by rw [← e8]; exact h8)
    exact ⟨b, k11.trans p1, p2, p3.kept hw⟩
  · obtain ⟨E, L, N, O, Y, U, D, q⟩ := h.mod (by rw [← e4]; exact h4)
    refine ⟨E, L, N, O, Y, U, D, k33.trans q.v33, fun h5 => k28.trans (q.v28 (by rw [← e5]; exact h5)), fun h6 => k34.trans (q.v34 (by rw [← e6]; exact h6)), fun h8 => (q.n8 (by rw [← e8]; exact h8)).below hw, fun h8 => ?_⟩
    obtain ⟨b, p1, p2, p3, p4⟩ := q.y8 (by rw [← e8]; exact h8)
    exact ⟨b, k11.trans p1, p2, fun h9 => ⟨(p3 (by rw [← e9]; exact h9)).1.kept hw, (p3 (by rw [← e9]; exact h9)).2.below hw⟩, fun h9 => ⟨(p4 (by rw [← e9]; exact h9)).1.kept hw, (p4 (by rw [← e9]; exact h9)).2.below hw⟩⟩

set_option maxHeartbeats 2000000 in
theorem reads_region {id : Nat} {ops : Array Oper} {Q : Exit → Act → World → Prop} {a0 : Act} {w0 : World} (CV : Value) (c0 c1 c2 c3 c4 c5 c6 c7 g : Int) (m : ModV) (s : SL) (zs : List Int) (cb : Nat) (hB : lowB ops = true) (hsz : ops.size = 11)
    (o0 : OpAt ops 0 (some 29) (.load 23 (.tmp 4)) []) (o1 : OpAt ops 1 (some 30) (.buildSlice 26 0 #[]) []) (o2 : OpAt ops 2 (some 31) (.move (.tmp 2)) []) (o3 : OpAt ops 3 (some 32) (.call { callee := .builtin .append, args := #[.tmp 30, .tmp 31], argTypes := #[26, 26] }) [1, 2]) (o4 : OpAt ops 4 (some 33) (.call { callee := .value (.func 24), args := #[.tmp 29, .tmp 32], argTypes := #[23, 26] }) [0, 3]) (o5 : OpAt ops 5 (some 28) (.move (.tmp 33)) [4]) (o6 : OpAt ops 6 (some 34) (.extract (.tmp 28) 0) [5]) (o7 : OpAt ops 7 (some 35) (.extract (.tmp 28) 1) [5]) (o8 : OpAt ops 8 (some 11) (.alloc 29) []) (o9 : OpAt ops 9 none (.store 29 (.tmp 11) (.tmp 34)) [6, 8]) (o10 : OpAt ops 10 (some 12) (.assign (.tmp 35)) [7])
    (k24 : ∀ W (s' : SL), IsS W s' zs → Calls Try.prog 24 #[CV, .slice s'.a s'.n s'.c] W fun e w' => ∃ E L N O : SL, ∃ Y U D', e = .returned (.tuple #[.agg (mdl c0 c1 c2 c3 c4 c5 c6 c7 E L N O), .int .i64 g]) ∧ NewM W.heap.size w' E L N O Y U D' m ∧ Below W.heap.size W w')
    (ld : ∀ w, Below w0.heap.size w0 w → (Instr.loadAt 23 (.pointer (some ⟨cb, 0, none⟩))).run Try.prog w = .ok CV w) (h4 : a0.tmps.getD 4 undef = .pointer (some ⟨cb, 0, none⟩)) (h2 : a0.tmps.getD 2 undef = .slice s.a s.n s.c) (hS : IsS w0 s zs) (hl : zs.length ≤ 140737488355328) (hN : 36 ≤ a0.tmps.size)
    (fin : ∀ a w b (E L N O : SL) (Y U D' : Nat → Nat → SL), a.tmps.size = a0.tmps.size → a.defers = a0.defers → (∀ s, (∀ i, i < 11 → rdD i ≠ some s) → a.tmps.getD s undef = a0.tmps.getD s undef) → a.tmps.getD 11 undef = .pointer (some ⟨b, 0, none⟩) → a.tmps.getD 12 undef = .int .i64 g → w0.heap.size ≤ b → Blk 29 w b (mdl c0 c1 c2 c3 c4 c5 c6 c7 E L N O) → NewM 0 w E L N O Y U D' m → Below w0.heap.size w0 w → Q .normal a w) : (Code.region id ops true).wp Try.prog Q a0 w0 := by
  have hrun : ∀ args w, (callFunc 24 args).run Try.prog w = .ok (.enter 24 args) w := enters Try.func24 (by kernel_rfl) rfl
  refine wp_region_inv (by kernel_rfl) hB (Inv 11 rdD a0 (RdR c0 c1 c2 c3 c4 c5 c6 c7 g m w0) (fun _ => rdF CV w0.heap.size s zs g)) (Inv.start ⟨below_drew (Below.refl _ _) ⟨1, rfl⟩, (fun _ h => by cases h), (fun h => by cases h), (fun h => by cases h), (fun h => by cases h), (fun h => by cases h)⟩) ?_ ?_
  · intro l i o a w ho hlf hdep hI
    have hi : i < 11 := by rw [← hsz]; exact (Array.getElem?_eq_some_iff.1 ho).1
    have hR := hI.world
    have hb := hR.below
    have hsB := hb.size
    have asz := hI.size
    have inj : ∀ d, rdD i = some d → ∀ j d', j < 11 → rdD j = some d' → j ≠ i → d' ≠ d := fun d hd j d' hj hd' hne e => hne (rdD_inj j hj i hi (by rw [hd, hd', e]) (by rw [hd']; simp))
    have ev : ∀ (s : Nat), a.eval (.tmp s) = a.tmps.getD s undef := fun _ => rfl
    have ke : ∀ s, (∀ i, i < 11 → rdD i ≠ some s) → a.eval (.tmp s) = a0.tmps.getD s undef := fun s hs => hI.kept s hs
    have oth : ∀ j, j ≠ i → (l j || j == i) = l j := fun j h => by rw [show (j == i) = false by simp; exact h, Bool.or_false]
    have s36 : 36 ≤ a.tmps.size := by omega
    have gp : ∀ (d : Nat) (v : Value) (s' : Nat), d < 36 → s' ≠ d → (a.put (some d) v).tmps.getD s' undef = a.tmps.getD s' undef := fun d v s' hd hne => by rw [get_put a d v s' (Nat.lt_of_lt_of_le hd s36), if_neg hne]
    have gs : ∀ (d : Nat) (v : Value), d < 36 → (a.put (some d) v).tmps.getD d undef = v := fun d v hd => by rw [get_put a d v d (Nat.lt_of_lt_of_le hd s36), if_pos rfl]
    have newW : ∀ {d v w'}, rdD i = some d → d < 36 → i ≠ 4 → i ≠ 5 → i ≠ 6 → i ≠ 8 → i ≠ 9 → d ≠ 33 → d ≠ 28 → d ≠ 34 → d ≠ 11 → Below w.heap.size w w' → rdF CV w0.heap.size s zs g i v w' → Inv 11 rdD a0 (RdR c0 c1 c2 c3 c4 c5 c6 c7 g m w0) (fun _ => rdF CV w0.heap.size s zs g) (fun j => l j || j == i) (a.put (some d) v) w' := fun {d v w'} hD hd n4 n5 n6 n8 n9 d33 d28 d34 d11 hw hF => hI.put hi hD (by omega) (inj _ hD) (hR.keep hw (oth 4 (Ne.symm n4)) (oth 5 (Ne.symm n5)) (oth 6 (Ne.symm n6)) (oth 8 (Ne.symm n8)) (oth 9 (Ne.symm n9)) (gp d v 33 hd (Ne.symm d33)) (gp d v 28 hd (Ne.symm d28)) (gp d v 34 hd (Ne.symm d34)) (gp d v 11 hd (Ne.symm d11))) hF fun j u _ _ _ hf => rdF_step hf (Keeps.of_below hw)
    rcases (show i = 0 ∨ i = 1 ∨ i = 2 ∨ i = 3 ∨ i = 4 ∨ i = 5 ∨ i = 6 ∨ i = 7 ∨ i = 8 ∨ i = 9 ∨ i = 10 by omega) with rfl | rfl | rfl | rfl | rfl | rfl | rfl | rfl | rfl | rfl | rfl
    · obtain ⟨o', e1, e2, e3, e4, e5⟩ := o0
      obtain rfl := Option.some.inj (ho.symm.trans e1)
      have dp := dep_of (ops := ops) e5 hdep
      refine wpOp_value (v := CV) (w' := w) ho e4 ?_ (by rw [e2]; exact newW rfl (by decide) (by decide) (by decide) (by decide) (by decide) (by decide) (by decide) (by decide) (by decide) (by decide) (Below.refl _ _) rfl)
      simp [execOp, e3, ke 4 (by decide), h4, ld w hb]
    · obtain ⟨o', e1, e2, e3, e4, e5⟩ := o1
      obtain rfl := Option.some.inj (ho.symm.trans e1)
      have dp := dep_of (ops := ops) e5 hdep
      refine wpOp_value (v := .slice (some ⟨w.heap.size, 0, none⟩) 0 0) (w' := w.alloc (.cells #[] 46)) ho e4 ?_ (by rw [e2]; exact newW rfl (by decide) (by decide) (by decide) (by decide) (by decide) (by decide) (by decide) (by decide) (by decide) (by decide) (below_new (Below.refl _ _) _) ⟨_, rfl, hsB, Blk.new 46 w #[]⟩)
      simp [execOp, e3, run_build0]
    · obtain ⟨o', e1, e2, e3, e4, e5⟩ := o2
      obtain rfl := Option.some.inj (ho.symm.trans e1)
      have dp := dep_of (ops := ops) e5 hdep
      refine wpOp_value (v := .slice s.a s.n s.c) (w' := w) ho e4 ?_ (by rw [e2]; exact newW rfl (by decide) (by decide) (by decide) (by decide) (by decide) (by decide) (by decide) (by decide) (by decide) (by decide) (Below.refl _ _) rfl)
      simp [execOp, e3, ke 2 (by decide), h2]
    · obtain ⟨o', e1, e2, e3, e4, e5⟩ := o3
      obtain rfl := Option.some.inj (ho.symm.trans e1)
      have dp := dep_of (ops := ops) e5 hdep
      obtain ⟨gg, ev1, hgB, hgq⟩ := hI.val 1 30 (by decide) rfl (dp 1 (by decide))
      have ev2 : a.tmps.getD 31 undef = .slice s.a s.n s.c := hI.val 2 31 (by decide) rfl (dp 2 (by decide))
      obtain ⟨s', w', hrn, hbw, hts⟩ := run_copy_ts w gg w0.heap.size o.type s zs (hS.below hb) hl hgB hgq hsB
      refine wpOp_value (v := .slice s'.a s'.n s'.c) (w' := w') ho e4 ?_ (by rw [e2]; exact newW rfl (by decide) (by decide) (by decide) (by decide) (by decide) (by decide) (by decide) (by decide) (by decide) (by decide) hbw ⟨s', rfl, hts⟩)
      have hrn' : _ = Result.ok (Value.slice s'.a s'.n s'.c) w' := hrn
      simp only [execOp, e3, resolve, invoke, builtin, Sem.run_bind, Sem.run_pure, Result.andThen_ok, List.map_toArray, List.map_cons, List.map_nil, ev, ev1, ev2, hrn']
    · obtain ⟨o', e1, e2, e3, e4, e5⟩ := o4
      obtain rfl := Option.some.inj (ho.symm.trans e1)
      have dp := dep_of (ops := ops) e5 hdep
      have ev1 : a.tmps.getD 29 undef = CV := hI.val 0 29 (by decide) rfl (dp 0 (by decide))
      obtain ⟨s', ev2, ts⟩ := hI.val 3 32 (by decide) rfl (dp 3 (by decide))
      have n9 : l 9 = false := by
        cases h9 : l 9 with
        | false => rfl
        | true => have := (hR.d9 h9).2; rw [hlf] at this; cases this
      refine wpOp_call (f := 24) (args := #[CV, .slice s'.a s'.n s'.c]) ho e4 ?_ ((k24 w s' ts.is).mono fun e w' hh => ?_)
      · simp [execOp, e3, resolve, invoke, ev, ev1, ev2, Deferred.ofValue, hrun, show a.eval (.func 24) = .func (.func 24) #[] #[] from rfl]
      · obtain ⟨E, L, N, O, Y, U, D', g1, g2, g3⟩ := hh
        refine ⟨_, g1, ?_⟩
        rw [e2]
        refine hI.put hi rfl (by omega) (inj _ rfl) ⟨below_then hb g3, (fun h => by simp at h), fun _ => ⟨E, L, N, O, Y, U, D', ?_⟩, (fun h => by simp [n9] at h), (fun _ => by simp), (fun _ => by simp)⟩ trivial fun j u' _ _ _ hf => rdF_step hf (Keeps.of_below g3)
        refine ⟨gs 33 _ (by decide), fun h5 => ?_, fun h6 => ?_, fun h8 => g2.le (Nat.zero_le _), fun h8 => ?_⟩
        · have := hR.d5 (by simpa using h5); rw [hlf] at this; cases this
        · have := hR.d6 (by simpa using h6); rw [hlf] at this; cases this
        · have h8' : l 8 = true := by simpa using h8
          obtain ⟨b, p1, p2, p3⟩ := hR.alone hlf h8'
          exact ⟨b, (gp 33 _ 11 (by decide) (by decide)).trans p1, p2, (fun _ => ⟨p3.kept g3, ModBut.of_new g2 p3.lt⟩), (fun h9 => by simp [n9] at h9)⟩
    · obtain ⟨o', e1, e2, e3, e4, e5⟩ := o5
      obtain rfl := Option.some.inj (ho.symm.trans e1)
      have dp := dep_of (ops := ops) e5 hdep
      obtain ⟨E, L, N, O, Y, U, D', q⟩ := hR.mod (dp 4 (by decide))
      refine wpOp_value (v := .tuple #[.agg (mdl c0 c1 c2 c3 c4 c5 c6 c7 E L N O), .int .i64 g]) (w' := w) ho e4 ?_ ?_
      · simp [execOp, e3, ev, q.v33]
      · rw [e2]
        refine hI.put hi rfl (by omega) (inj _ rfl) ⟨hb, (fun h => by simp [dp 4 (by decide)] at h), fun _ => ⟨E, L, N, O, Y, U, D', (gp 28 _ 33 (by decide) (by decide)).trans q.v33, (fun _ => gs 28 _ (by decide)), fun h6 => (gp 28 _ 34 (by decide) (by decide)).trans (q.v34 (by simpa using h6)), fun h8 => q.n8 (by simpa using h8), fun h8 => ?_⟩, fun h9 => ?_, fun _ => ?_, fun _ => ?_⟩ trivial fun j u' _ _ _ hf => hf
        · obtain ⟨b, p1, p2, p3, p4⟩ := q.y8 (by simpa using h8)
          exact ⟨b, (gp 28 _ 11 (by decide) (by decide)).trans p1, p2, fun h9 => p3 (by simpa using h9), fun h9 => p4 (by simpa using h9)⟩
        · have := hR.d9 (by simpa using h9)
          simp [this.1, this.2]
        · simp [dp 4 (by decide)]
        · simp [dp 4 (by decide)]
    · obtain ⟨o', e1, e2, e3, e4, e5⟩ := o6
      obtain rfl := Option.some.inj (ho.symm.trans e1)
      have dp := dep_of (ops := ops) e5 hdep
      have d5 := dp 5 (by decide)
      obtain ⟨E, L, N, O, Y, U, D', q⟩ := hR.mod (hR.d5 d5)
      refine wpOp_value (v := .agg (mdl c0 c1 c2 c3 c4 c5 c6 c7 E L N O)) (w' := w) ho e4 ?_ ?_
      · simp [execOp, e3, ev, q.v28 d5, Instr.extract]
      · rw [e2]
        refine hI.put hi rfl (by omega) (inj _ rfl) ⟨hb, (fun h => by simp [hR.d5 d5] at h), fun _ => ⟨E, L, N, O, Y, U, D', (gp 34 _ 33 (by decide) (by decide)).trans q.v33, fun h5 => (gp 34 _ 28 (by decide) (by decide)).trans (q.v28 d5), (fun _ => gs 34 _ (by decide)), fun h8 => q.n8 (by simpa using h8), fun h8 => ?_⟩, fun h9 => ?_, fun _ => ?_, fun _ => ?_⟩ trivial fun j u' _ _ _ hf => hf
        · obtain ⟨b, p1, p2, p3, p4⟩ := q.y8 (by simpa using h8)
          exact ⟨b, (gp 34 _ 11 (by decide) (by decide)).trans p1, p2, fun h9 => p3 (by simpa using h9), fun h9 => p4 (by simpa using h9)⟩
        · have := hR.d9 (by simpa using h9)
          simp [this.1, this.2]
        · simp [hR.d5 d5]
        · simp [hR.d5 d5]
    · obtain ⟨o', e1, e2, e3, e4, e5⟩ := o7
      obtain rfl := Option.some.inj (ho.symm.trans e1)
      have dp := dep_of (ops := ops) e5 hdep
      have d5 := dp 5 (by decide)
      obtain ⟨E, L, N, O, Y, U, D', q⟩ := hR.mod (hR.d5 d5)
      refine wpOp_value (v := .int .i64 g) (w' := w) ho e4 ?_ (by rw [e2]; exact newW rfl (by decide) (by decide) (by decide) (by decide) (by decide) (by decide) (by decide) (by decide) (by decide) (by decide) (Below.refl _ _) rfl)
      simp [execOp, e3, ev, q.v28 d5, Instr.extract]
    · obtain ⟨o', e1, e2, e3, e4, e5⟩ := o8
      obtain rfl := Option.some.inj (ho.symm.trans e1)
      have dp := dep_of (ops := ops) e5 hdep
      have n9 : l 9 = false := by
        cases h9 : l 9 with
        | false => rfl
        | true => have := (hR.d9 h9).1; rw [hlf] at this; cases this
      refine wpOp_value (v := .pointer (some ⟨w.heap.size, 0, none⟩)) (w' := w.alloc (.cells zeroC 29)) ho e4 ?_ ?_
      · simp [execOp, e3, run_alloc29]
      · rw [e2]
        have bn := below_new (Below.refl w.heap.size w) (.cells zeroC 29)
        refine hI.put hi rfl (by omega) (inj _ rfl) ⟨below_then hb bn, (fun h4 _ => ⟨_, gs 11 _ (by decide), hsB, Blk.new 29 w zeroC⟩), fun h4' => ?_, (fun h => by simp [n9] at h), (fun h => by simp [hR.d5 (by simpa using h)]), (fun h => by simp [hR.d6 (by simpa using h)])⟩ trivial fun j u' _ _ _ hf => rdF_step hf (Keeps.of_below bn)
        obtain ⟨E, L, N, O, Y, U, D', q⟩ := hR.mod (by simpa using h4')
        exact ⟨E, L, N, O, Y, U, D', (gp 11 _ 33 (by decide) (by decide)).trans q.v33, fun h5 => (gp 11 _ 28 (by decide) (by decide)).trans (q.v28 (by simpa using h5)), fun h6 => (gp 11 _ 34 (by decide) (by decide)).trans (q.v34 (by simpa using h6)), (fun h8 => by simp at h8), fun _ => ⟨_, gs 11 _ (by decide), hsB, (fun _ => ⟨Blk.new 29 w zeroC, ModBut.fresh (q.n8 hlf)⟩), (fun h9 => by simp [n9] at h9)⟩⟩
    · obtain ⟨o', e1, e2, e3, e4, e5⟩ := o9
      obtain rfl := Option.some.inj (ho.symm.trans e1)
      have dp := dep_of (ops := ops) e5 hdep
      have d8 := dp 8 (by decide)
      have d6 := dp 6 (by decide)
      have d4 := hR.d6 d6
      obtain ⟨E, L, N, O, Y, U, D', q⟩ := hR.mod d4
      obtain ⟨b, p1, p2, p3, p4⟩ := q.y8 d8
      obtain ⟨r1, r2⟩ := p3 hlf
      obtain ⟨w', hrn, q9, on⟩ := run_store29x r1 c0 c1 c2 c3 c4 c5 c6 c7 E L N O
      refine wpOp_skip (w' := w') ho e4 ?_ ?_
      · simp [execOp, e3, ev, p1, q.v34 d6, hrn]
      · rw [e2]
        refine hI.none_ rfl ⟨Only.below hb p2 hsB on, (fun h => by simp [d4] at h), fun _ => ⟨E, L, N, O, Y, U, D', q.v33, fun h5 => q.v28 (by simpa using h5), fun _ => q.v34 d6, (fun h => by simp [d8] at h), fun _ => ⟨b, p1, p2, (fun h9 => by simp at h9), fun _ => ⟨q9, r2.stored on⟩⟩⟩, fun _ => by simp [d8, d4], (fun _ => by simp [d4]), (fun _ => by simp [d4])⟩ fun j u' _ _ _ hf => rdF_step hf (Keeps.of_only on r1 (by decide))
    · obtain ⟨o', e1, e2, e3, e4, e5⟩ := o10
      obtain rfl := Option.some.inj (ho.symm.trans e1)
      have dp := dep_of (ops := ops) e5 hdep
      have ev1 : a.tmps.getD 35 undef = .int .i64 g := hI.val 7 35 (by decide) rfl (dp 7 (by decide))
      refine wpOp_value (v := .int .i64 g) (w' := w) ho e4 ?_ (by rw [e2]; exact newW rfl (by decide) (by decide) (by decide) (by decide) (by decide) (by decide) (by decide) (by decide) (by decide) (by decide) (Below.refl _ _) rfl)
      simp [execOp, e3, ev, ev1]
  · intro l a w hall hI
    have hR := hI.world
    obtain ⟨E, L, N, O, Y, U, D', q⟩ := hR.mod (hall 4 (by omega))
    obtain ⟨b, p1, p2, p3, p4⟩ := q.y8 (hall 8 (by omega))
    obtain ⟨r1, r2⟩ := p4 (hall 9 (by omega))
    exact fin a w b E L N O Y U D' hI.size hI.defers hI.kept p1 (hI.val 10 12 (by decide) rfl (hall 10 (by omega))) p2 r1 r2 hR.below

end Go.Proofs.Ytjbeloljbjfibaa
