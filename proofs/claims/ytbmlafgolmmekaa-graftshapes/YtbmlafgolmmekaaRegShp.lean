/- The region of GraftShapes that copies the weights and calls Shape. -/
import Derived.Test.YtbmlafgolmmekaaRows
import Derived.Test.YtbmlafgolmmekaaView
import Derived.Test.YtbmlafgolmmekaaOwn
import Derived.Test.YtbmlafgolmmekaaCfg
import Derived.Test.YtbmlafgolmmekaaCfgs
import Derived.Test.YtbmlafgolmmekaaCfgRef
import Derived.Test.YtbmlafgolmmekaaHeld
import Derived.Test.YtbmlafgolmmekaaReader
import Derived.Test.YtbmlafgolmmekaaSls
import Derived.Test.YtbmlafgolmmekaaSteps
import Derived.Test.YtbmlafgolmmekaaInv
import Derived.Test.YtbmlafgolmmekaaTyped
import Derived.Test.YtbmlafgolmmekaaAds
import Derived.Test.YtbmlafgolmmekaaRanges
import Derived.Test.YtbmlafgolmmekaaPush
import Derived.Test.YtbmlafgolmmekaaRegs
import Derived.WalkKit
import Derived.ProofKit
import Derived.OpenShut
import Derived.Below
import Derived.WalkLawsBesides
import Derived.Deep.QuietTactic
import Derived.BigQuiet
import Derived.Lib.QuietBelow
import Derived.Deep.RegionHeld3
import Derived.Orders
import Derived.ArgAppend
import Derived.Maps.AppendAt
namespace Go.Proofs.Ytbmlafgolmmekaa
open Go.ChangeShapes Go.WideShapes Go.ChangeAt Go.RowKit
open Go.Sort hiding Below
set_option linter.unusedVariables false
set_option linter.unusedSimpArgs false

def shpD (i : Nat) : Option Nat := match i with | 0 => some 14 | 1 => some 15 | 2 => some 16 | 3 => some 17 | 4 => some 18 | 5 => some 19 | 6 => some 20 | 7 => some 13 | 8 => some 21 | 9 => some 22 | 10 => some 9 | 11 => none | 12 => some 10 | _ => none
theorem shpD_inj : ∀ i, i < 13 → ∀ j, j < 13 → shpD i = shpD j → shpD i ≠ none → i = j := by decide
theorem shpD_lt : ∀ i, i < 13 → ∀ d, shpD i = some d → d < 23 := by
  intro i hi d h
  have : ∀ i, i < 13 → (shpD i).all (fun d => decide (d < 23)) = true := by decide
  have := this i hi
  rw [h] at this
  simpa using this
def shpF (B0 cb : Nat) (R S R' S' E : Int) (CV : Value) (z : SL) (zs : List Int) (m : AdV) (i : Nat) (q : Value) (w : World) : Prop := match i with
  | 0 => q = .int .i64 R
  | 1 => q = .int .i64 S
  | 2 => q = CV
  | 3 => ∃ g : Nat, q = .slice (some ⟨g, 0, none⟩) 0 0 ∧ B0 ≤ g ∧ Blk 62 w g #[]
  | 4 => q = .slice z.a z.n z.c
  | 5 => ∃ s : SL, q = .slice s.a s.n s.c ∧ IsS w s zs
  | 6 => ∃ (L : SL) (Y : Nat → Nat → SL), q = .tuple #[.agg #[.int .i64 R', .int .i64 S', .slice L.a L.n L.c], .int .i64 E] ∧ AdAt w L Y m
  | 7 => ∃ (L : SL) (Y : Nat → Nat → SL), q = .tuple #[.agg #[.int .i64 R', .int .i64 S', .slice L.a L.n L.c], .int .i64 E] ∧ AdAt w L Y m
  | 8 => ∃ (L : SL) (Y : Nat → Nat → SL), q = .agg #[.int .i64 R', .int .i64 S', .slice L.a L.n L.c] ∧ AdAt w L Y m
  | 9 => q = .int .i64 E
  | 10 => True
  | 11 => True
  | 12 => q = .int .i64 E
  | _ => True
theorem shpF_below {B0 cb : Nat} {R S R' S' E : Int} {CV : Value} {z : SL} {zs : List Int} {m : AdV} {i : Nat} {q : Value} {w w' : World} (h : shpF B0 cb R S R' S' E CV z zs m i q w) (hb : Below w.heap.size w w') : shpF B0 cb R S R' S' E CV z zs m i q w' := by
  unfold shpF at h ⊢
  split
  · exact h
  · exact h
  · exact h
  · obtain ⟨g, f1, f2, f3⟩ := h
    exact ⟨g, f1, f2, f3.below hb⟩
  · exact h
  · obtain ⟨s, f1, f2⟩ := h
    exact ⟨s, f1, f2.below hb⟩
  · obtain ⟨L, Y, f1, f2⟩ := h
    exact ⟨L, Y, f1, f2.below hb⟩
  · obtain ⟨L, Y, f1, f2⟩ := h
    exact ⟨L, Y, f1, f2.below hb⟩
  · obtain ⟨L, Y, f1, f2⟩ := h
    exact ⟨L, Y, f1, f2.below hb⟩
  · exact h
  · exact h
  · exact h
  · exact h
  · trivial
theorem shpF_other {B0 cb : Nat} {R S R' S' E : Int} {CV : Value} {z : SL} {zs : List Int} {m : AdV} {i : Nat} {q : Value} {w w' : World} {G : Nat} (h : shpF B0 cb R S R' S' E CV z zs m i q w) (o : Only G w w') (qz : Blk 24 w G #[.int .i64 0, .int .i64 0, .slice none 0 0]) : shpF B0 cb R S R' S' E CV z zs m i q w' := by
  unfold shpF at h ⊢
  split
  · exact h
  · exact h
  · exact h
  · obtain ⟨g, f1, f2, f3⟩ := h
    exact ⟨g, f1, f2, f3.other24 o qz⟩
  · exact h
  · obtain ⟨s, f1, f2⟩ := h
    exact ⟨s, f1, f2.other24 o qz⟩
  · obtain ⟨L, Y, f1, f2⟩ := h
    exact ⟨L, Y, f1, f2.other24 o qz⟩
  · obtain ⟨L, Y, f1, f2⟩ := h
    exact ⟨L, Y, f1, f2.other24 o qz⟩
  · obtain ⟨L, Y, f1, f2⟩ := h
    exact ⟨L, Y, f1, f2.other24 o qz⟩
  · exact h
  · exact h
  · exact h
  · exact h
  · trivial
def shpR (w0 : World) (B0 cb : Nat) (R S R' S' E : Int) (CV : Value) (z : SL) (zs : List Int) (m : AdV) (l : Nat → Bool) (a : Act) (w : World) : Prop := Below w0.heap.size w0 w ∧ ∃ G : Nat, l 10 = true → a.tmps.getD 9 undef = .pointer (some ⟨G, 0, none⟩) ∧ w0.heap.size ≤ G ∧ (l 11 = false → Blk 24 w G #[.int .i64 0, .int .i64 0, .slice none 0 0]) ∧ (l 11 = true → ∃ (L : SL) (Y : Nat → Nat → SL), Blk 24 w G #[.int .i64 R', .int .i64 S', .slice L.a L.n L.c] ∧ AdAt w L Y m)

set_option maxHeartbeats 4000000 in
theorem shp_region {id : Nat} {ops : Array Oper} {Q : Exit → Act → World → Prop} {a0 : Act} {w0 : World} (B0 cb : Nat) (R S R' S' E : Int) (CV : Value) (z : SL) (zs : List Int) (m : AdV) (hlow : lowB ops = true) (hsz : ops.size = 13)
    (o0 : OpIn ops 0 (some 14) (.move (.tmp 0)) none []) (o1 : OpIn ops 1 (some 15) (.move (.tmp 1)) none []) (o2 : OpIn ops 2 (some 16) (.load 26 (.tmp 6)) none []) (o3 : OpIn ops 3 (some 17) (.buildSlice 33 0 #[]) none []) (o4 : OpIn ops 4 (some 18) (.move (.tmp 3)) none []) (o5 : OpIn ops 5 (some 19) (.call { callee := .builtin .append, args := #[.tmp 17, .tmp 18], argTypes := #[33, 33] }) none [3, 4]) (o6 : OpIn ops 6 (some 20) (.call { callee := .value (.func 20), args := #[.tmp 14, .tmp 15, .tmp 16, .tmp 19], argTypes := #[3, 3, 26, 33] }) none [0, 1, 2, 5]) (o7 : OpIn ops 7 (some 13) (.move (.tmp 20)) none [6]) (o8 : OpIn ops 8 (some 21) (.extract (.tmp 13) 0) none [7]) (o9 : OpIn ops 9 (some 22) (.extract (.tmp 13) 1) none [7]) (o10 : OpIn ops 10 (some 9) (.alloc 24) none []) (o11 : OpIn ops 11 none (.store 24 (.tmp 9) (.tmp 21)) none [8, 10]) (o12 : OpIn ops 12 (some 10) (.assign (.tmp 22)) none [9])
    (h0 : a0.tmps.getD 0 undef = .int .i64 R) (h1 : a0.tmps.getD 1 undef = .int .i64 S) (h3 : a0.tmps.getD 3 undef = .slice z.a z.n z.c) (h6 : a0.tmps.getD 6 undef = .pointer (some ⟨cb, 0, none⟩)) (hB0 : B0 ≤ w0.heap.size)
    (l26 : ∀ W, Below w0.heap.size w0 W → (Instr.loadAt 26 (.pointer (some ⟨cb, 0, none⟩))).run Try.prog W = .ok CV W) (hz : ∀ W, Below w0.heap.size w0 W → IsS W z zs) (hzl : zs.length ≤ 140737488355328)
    (k20 : ∀ W (s : SL), Below w0.heap.size w0 W → IsS W s zs → Calls Try.prog 20 #[.int .i64 R, .int .i64 S, CV, .slice s.a s.n s.c] W fun e W' => ∃ (L : SL) (Y : Nat → Nat → SL), e = .returned (.tuple #[.agg #[.int .i64 R', .int .i64 S', .slice L.a L.n L.c], .int .i64 E]) ∧ AdAt W' L Y m ∧ Below W.heap.size W W')
    (hs : 23 ≤ a0.tmps.size)
    (fin : ∀ a w, a.tmps.size = a0.tmps.size → a.defers = a0.defers → (∀ s, (∀ i, i < 13 → shpD i ≠ some s) → a.tmps.getD s undef = a0.tmps.getD s undef) → Below w0.heap.size w0 w → (∀ i d, i < 13 → shpD i = some d → shpF B0 cb R S R' S' E CV z zs m i (a.tmps.getD d undef) w) → (∃ G : Nat, a.tmps.getD 9 undef = .pointer (some ⟨G, 0, none⟩) ∧ w0.heap.size ≤ G ∧ ∃ (L : SL) (Y : Nat → Nat → SL), Blk 24 w G #[.int .i64 R', .int .i64 S', .slice L.a L.n L.c] ∧ AdAt w L Y m) → Q .normal a w) : (Code.region id ops true).wp Try.prog Q a0 w0 := by
  have r20 : ∀ args w, (callFunc 20 args).run Try.prog w = .ok (.enter 20 args) w := enters Try.func20 (by kernel_rfl) rfl
  refine wp_region_inv2 (by kernel_rfl) hlow (Inv 13 shpD a0 (shpR w0 B0 cb R S R' S' E CV z zs m) (fun _ => shpF B0 cb R S R' S' E CV z zs m)) (Inv.start ⟨⟨rfl, rfl, rfl, Nat.le_refl _, fun _ _ => rfl⟩, 0, fun h => by cases h⟩) ?_ ?_
  · intro l i o a w ho hl hcl hdep hI
    have hi : i < 13 := by rw [← hsz]; exact (Array.getElem?_eq_some_iff.1 ho).1
    have ev : ∀ (s : Nat), a.eval (.tmp s) = a.tmps.getD s undef := fun _ => rfl
    have evf : ∀ f, a.eval (.func f) = .func (.func f) #[] #[] := fun _ => rfl
    have evc : ∀ c : Value, a.eval (.const c) = c := fun _ => rfl
    have inj : ∀ d, shpD i = some d → ∀ j d', j < 13 → shpD j = some d' → j ≠ i → d' ≠ d := fun d hd j d' hj hd' hne e => hne (shpD_inj j hj i hi (by rw [hd', hd, e]) (by rw [hd']; simp))
    have kp : ∀ s, (∀ i, i < 13 → shpD i ≠ some s) → a.tmps.getD s undef = a0.tmps.getD s undef := hI.kept
    have oth : ∀ j, j ≠ i → (l j || j == i) = l j := fun j hj => by rw [show (j == i) = false by simp [hj], Bool.or_false]
    have get : ∀ (d : Nat) (v : Value) (s : Nat), d < 23 → s ≠ d → (a.put (some d) v).tmps.getD s undef = a.tmps.getD s undef := fun d v s hd hs' => by
      rw [get_put a d v s (by rw [hI.size]; exact Nat.lt_of_lt_of_le hd hs), if_neg hs']
    obtain ⟨hw, G, hG⟩ := hI.world
    have go : ∀ {d : Nat} {v : Value} {w' : World}, shpD i = some d → i ≠ 10 → i ≠ 11 → d ≠ 9 → Below w.heap.size w w' → shpF B0 cb R S R' S' E CV z zs m i v w' → (l 10 = true → l 11 = true → w' = w ∨ False) → Inv 13 shpD a0 (shpR w0 B0 cb R S R' S' E CV z zs m) (fun _ => shpF B0 cb R S R' S' E CV z zs m) (fun j => l j || j == i) (a.put (some d) v) w' := by
      intro d v w' hD n1 n2 n3 hb hF hst
      refine hI.put hi hD (Nat.lt_of_lt_of_le (shpD_lt i hi d hD) hs) (inj d hD) ⟨below_then hw hb, G, fun h => ?_⟩ hF (fun j u _ _ _ hf => shpF_below hf hb)
      dsimp only at h ⊢
      rw [oth 10 (Ne.symm n1)] at h
      rw [oth 11 (Ne.symm n2), get d v 9 (shpD_lt i hi d hD) (Ne.symm n3)]
      obtain ⟨g1, g2, g3, g4⟩ := hG h
      refine ⟨g1, g2, fun h' => (g3 h').kept hb, fun h' => ?_⟩
      rcases hst h h' with e | e
      · rw [e]; exact g4 h'
      · cases e
    rcases (show i = 0 ∨ i = 1 ∨ i = 2 ∨ i = 3 ∨ i = 4 ∨ i = 5 ∨ i = 6 ∨ i = 7 ∨ i = 8 ∨ i = 9 ∨ i = 10 ∨ i = 11 ∨ i = 12 by omega) with rfl | rfl | rfl | rfl | rfl | rfl | rfl | rfl | rfl | rfl | rfl | rfl | rfl
    · obtain ⟨o', e1, e2, e3, e4, e5⟩ := o0
      obtain rfl := Option.some.inj (ho.symm.trans e1)
      have dp := dep_of' e5 hdep
      refine wpOp_value (v := .int .i64 R) (w' := w) ho e4 (by simp [execOp, e3, ev, evc, kp 0 (by decide), h0]) (by rw [e2]; exact go rfl (by decide) (by decide) (by decide) (Below.refl _ _) rfl (fun _ _ => .inl rfl))
    · obtain ⟨o', e1, e2, e3, e4, e5⟩ := o1
      obtain rfl := Option.some.inj (ho.symm.trans e1)
      have dp := dep_of' e5 hdep
      refine wpOp_value (v := .int .i64 S) (w' := w) ho e4 (by simp [execOp, e3, ev, evc, kp 1 (by decide), h1]) (by rw [e2]; exact go rfl (by decide) (by decide) (by decide) (Below.refl _ _) rfl (fun _ _ => .inl rfl))
    · obtain ⟨o', e1, e2, e3, e4, e5⟩ := o2
      obtain rfl := Option.some.inj (ho.symm.trans e1)
      have dp := dep_of' e5 hdep
      refine wpOp_value (v := CV) (w' := w) ho e4 (by simp [execOp, e3, ev, evc, kp 6 (by decide), h6, l26 w hw]) (by rw [e2]; exact go rfl (by decide) (by decide) (by decide) (Below.refl _ _) rfl (fun _ _ => .inl rfl))
    · obtain ⟨o', e1, e2, e3, e4, e5⟩ := o3
      obtain rfl := Option.some.inj (ho.symm.trans e1)
      have dp := dep_of' e5 hdep
      refine wpOp_value (v := .slice (some ⟨w.heap.size, 0, none⟩) 0 0) (w' := w.alloc (.cells #[] 62)) ho e4 (by simp [execOp, e3, run_build0]) (by rw [e2]; exact go rfl (by decide) (by decide) (by decide) (below_new (Below.refl _ _) _) ⟨_, rfl, Nat.le_trans hB0 hw.size, Blk.new 62 w #[]⟩ (fun h h' => absurd h' (fun z0 => by have z1 := hcl.dep' o11 z0 8 (by decide); have z2 := hcl.dep' o8 z1 7 (by decide); have z3 := hcl.dep' o7 z2 6 (by decide); have z4 := hcl.dep' o6 z3 5 (by decide); have z5 := hcl.dep' o5 z4 3 (by decide); rw [hl] at z5; cases z5)))
    · obtain ⟨o', e1, e2, e3, e4, e5⟩ := o4
      obtain rfl := Option.some.inj (ho.symm.trans e1)
      have dp := dep_of' e5 hdep
      refine wpOp_value (v := .slice z.a z.n z.c) (w' := w) ho e4 (by simp [execOp, e3, ev, evc, kp 3 (by decide), h3]) (by rw [e2]; exact go rfl (by decide) (by decide) (by decide) (Below.refl _ _) rfl (fun _ _ => .inl rfl))
    · obtain ⟨o', e1, e2, e3, e4, e5⟩ := o5
      obtain rfl := Option.some.inj (ho.symm.trans e1)
      have dp := dep_of' e5 hdep
      obtain ⟨g3, V3, gB3, gq3⟩ : ∃ g : Nat, a.tmps.getD 17 undef = .slice (some ⟨g, 0, none⟩) 0 0 ∧ B0 ≤ g ∧ Blk 62 w g #[] := hI.val 3 17 (by decide) rfl (dp 3 (by decide))
      have V4 : a.tmps.getD 18 undef = .slice z.a z.n z.c := hI.val 4 18 (by decide) rfl (dp 4 (by decide))
      obtain ⟨s', w', hrn, hbw, hts⟩ := run_copy_ts w g3 B0 o.type z zs (hz w hw) hzl gB3 gq3 (Nat.le_trans hB0 hw.size)
      refine wpOp_value (v := s'.v) (w' := w') ho e4 (by simp only [execOp, e3, resolve, invoke, builtin, Sem.run_bind, Sem.run_pure, Result.andThen_ok, List.map_toArray, List.map_cons, List.map_nil, ev, V3, V4, hrn]) (by rw [e2]; exact go rfl (by decide) (by decide) (by decide) hbw ⟨s', rfl, hts.is⟩ (fun h h' => absurd h' (fun z0 => by have z1 := hcl.dep' o11 z0 8 (by decide); have z2 := hcl.dep' o8 z1 7 (by decide); have z3 := hcl.dep' o7 z2 6 (by decide); have z4 := hcl.dep' o6 z3 5 (by decide); rw [hl] at z4; cases z4)))
    · obtain ⟨o', e1, e2, e3, e4, e5⟩ := o6
      obtain rfl := Option.some.inj (ho.symm.trans e1)
      have dp := dep_of' e5 hdep
      have V0 : a.tmps.getD 14 undef = .int .i64 R := hI.val 0 14 (by decide) rfl (dp 0 (by decide))
      have V1 : a.tmps.getD 15 undef = .int .i64 S := hI.val 1 15 (by decide) rfl (dp 1 (by decide))
      have V2 : a.tmps.getD 16 undef = CV := hI.val 2 16 (by decide) rfl (dp 2 (by decide))
      obtain ⟨s5, V5, is5⟩ : ∃ s : SL, a.tmps.getD 19 undef = .slice s.a s.n s.c ∧ IsS w s zs := hI.val 5 19 (by decide) rfl (dp 5 (by decide))
      refine wpOp_call (f := 20) (args := #[.int .i64 R, .int .i64 S, CV, .slice s5.a s5.n s5.c]) ho e4 (by simp [execOp, e3, resolve, invoke, Deferred.ofValue, r20, ev, evf, evc, V0, V1, V2, V5]) ((k20 w s5 hw is5).mono ?_)
      rintro e W' ⟨L', Y', rfl, ha, hbw⟩
      refine ⟨_, rfl, ?_⟩
      rw [e2]
      exact go rfl (by decide) (by decide) (by decide) hbw ⟨L', Y', rfl, ha⟩ (fun h h' => absurd h' (fun z0 => by have z1 := hcl.dep' o11 z0 8 (by decide); have z2 := hcl.dep' o8 z1 7 (by decide); have z3 := hcl.dep' o7 z2 6 (by decide); rw [hl] at z3; cases z3))
    · obtain ⟨o', e1, e2, e3, e4, e5⟩ := o7
      obtain rfl := Option.some.inj (ho.symm.trans e1)
      have dp := dep_of' e5 hdep
      obtain ⟨L6, Y6, V6, ad6⟩ : ∃ (L : SL) (Y : Nat → Nat → SL), a.tmps.getD 20 undef = .tuple #[.agg #[.int .i64 R', .int .i64 S', .slice L.a L.n L.c], .int .i64 E] ∧ AdAt w L Y m := hI.val 6 20 (by decide) rfl (dp 6 (by decide))
      refine wpOp_value (v := .tuple #[.agg #[.int .i64 R', .int .i64 S', .slice L6.a L6.n L6.c], .int .i64 E]) (w' := w) ho e4 (by simp [execOp, e3, ev, evc, V6]) (by rw [e2]; exact go rfl (by decide) (by decide) (by decide) (Below.refl _ _) ⟨L6, Y6, rfl, ad6⟩ (fun _ _ => .inl rfl))
    · obtain ⟨o', e1, e2, e3, e4, e5⟩ := o8
      obtain rfl := Option.some.inj (ho.symm.trans e1)
      have dp := dep_of' e5 hdep
      obtain ⟨L7, Y7, V7, ad7⟩ : ∃ (L : SL) (Y : Nat → Nat → SL), a.tmps.getD 13 undef = .tuple #[.agg #[.int .i64 R', .int .i64 S', .slice L.a L.n L.c], .int .i64 E] ∧ AdAt w L Y m := hI.val 7 13 (by decide) rfl (dp 7 (by decide))
      refine wpOp_value (v := .agg #[.int .i64 R', .int .i64 S', .slice L7.a L7.n L7.c]) (w' := w) ho e4 (by simp [execOp, e3, ev, evc, V7, run_ext0]) (by rw [e2]; exact go rfl (by decide) (by decide) (by decide) (Below.refl _ _) ⟨L7, Y7, rfl, ad7⟩ (fun _ _ => .inl rfl))
    · obtain ⟨o', e1, e2, e3, e4, e5⟩ := o9
      obtain rfl := Option.some.inj (ho.symm.trans e1)
      have dp := dep_of' e5 hdep
      obtain ⟨L7, Y7, V7, ad7⟩ : ∃ (L : SL) (Y : Nat → Nat → SL), a.tmps.getD 13 undef = .tuple #[.agg #[.int .i64 R', .int .i64 S', .slice L.a L.n L.c], .int .i64 E] ∧ AdAt w L Y m := hI.val 7 13 (by decide) rfl (dp 7 (by decide))
      refine wpOp_value (v := .int .i64 E) (w' := w) ho e4 (by simp [execOp, e3, ev, evc, V7, run_ext1]) (by rw [e2]; exact go rfl (by decide) (by decide) (by decide) (Below.refl _ _) rfl (fun _ _ => .inl rfl))
    · obtain ⟨o', e1, e2, e3, e4, e5⟩ := o10
      obtain rfl := Option.some.inj (ho.symm.trans e1)
      have dp := dep_of' e5 hdep
      have nst : l 11 = false := by
        cases e : l 11 with
        | false => rfl
        | true =>
          have := hcl.dep' o11 e 10 (by decide)
          rw [hl] at this
          cases this
      refine wpOp_value (v := .pointer (some ⟨w.heap.size, 0, none⟩)) (w' := w.alloc (.cells #[.int .i64 0, .int .i64 0, .slice none 0 0] 24)) ho e4 (by simp [execOp, e3, run_alloc24]) ?_
      rw [e2]
      have b1 := below_new (Below.refl w.heap.size w) (.cells #[.int .i64 0, .int .i64 0, .slice none 0 0] 24)
      refine hI.put hi rfl (Nat.lt_of_lt_of_le (by decide) hs) (inj 9 rfl) ⟨below_then hw b1, w.heap.size, fun _ => ⟨?_, hw.size, fun _ => Blk.new 24 w _, fun h => ?_⟩⟩ trivial (fun j u _ _ _ hf => shpF_below hf b1)
      · rw [get_put a 9 _ 9 (by rw [hI.size]; exact Nat.lt_of_lt_of_le (by decide) hs), if_pos rfl]
      · dsimp only at h
        rw [oth 11 (by decide), nst] at h
        cases h
    · obtain ⟨o', e1, e2, e3, e4, e5⟩ := o11
      obtain rfl := Option.some.inj (ho.symm.trans e1)
      have dp := dep_of' e5 hdep
      obtain ⟨L8, Y8, V8, ad8⟩ : ∃ (L : SL) (Y : Nat → Nat → SL), a.tmps.getD 21 undef = .agg #[.int .i64 R', .int .i64 S', .slice L.a L.n L.c] ∧ AdAt w L Y m := hI.val 8 21 (by decide) rfl (dp 8 (by decide))
      have la := dp 10 (by decide)
      obtain ⟨g1, g2, g3, g4⟩ := hG la
      have qz := g3 hl
      obtain ⟨w', hrn, q', on⟩ := run_store24 qz R' S' L8
      refine wpOp_skip (w' := w') ho e4 (by simp [execOp, e3, ev, g1, V8, hrn]) ?_
      rw [e2]
      refine hI.none_ rfl ⟨Only.below hw g2 hw.size on, G, fun h => ⟨g1, g2, fun h' => ?_, fun _ => ?_⟩⟩ (fun j u _ _ _ hf => shpF_other hf on qz)
      · simp at h'
      · exact ⟨L8, Y8, q', ad8.other24 on qz⟩
    · obtain ⟨o', e1, e2, e3, e4, e5⟩ := o12
      obtain rfl := Option.some.inj (ho.symm.trans e1)
      have dp := dep_of' e5 hdep
      have V9 : a.tmps.getD 22 undef = .int .i64 E := hI.val 9 22 (by decide) rfl (dp 9 (by decide))
      refine wpOp_value (v := .int .i64 E) (w' := w) ho e4 (by simp [execOp, e3, ev, evc, V9]) (by rw [e2]; exact go rfl (by decide) (by decide) (by decide) (Below.refl _ _) rfl (fun _ _ => .inl rfl))
  · intro l a w hall hI
    have all : ∀ j, j < 13 → l j = true := fun j hj => hall j (by rw [hsz]; exact hj)
    obtain ⟨hw, G, hG⟩ := hI.world
    obtain ⟨g1, g2, g3, g4⟩ := hG (all 10 (by decide))
    exact fin a w hI.size hI.defers hI.kept hw (fun i d hi hD => hI.val i d hi hD (all i hi)) ⟨G, g1, g2, g4 (all 11 (by decide))⟩

end Go.Proofs.Ytbmlafgolmmekaa
