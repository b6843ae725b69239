/- Two regions that shape a list that is too long, or too short: whatever order they draw. -/
import Derived.Test.YtjbeloljbjfibaaRows
import Derived.Test.YtjbeloljbjfibaaLayer8
import Derived.Test.YtjbeloljbjfibaaConf
import Derived.Test.YtjbeloljbjfibaaBlank
import Derived.Test.YtjbeloljbjfibaaCfgRef
import Derived.Test.YtjbeloljbjfibaaSize
import Derived.Test.YtjbeloljbjfibaaSizes
import Derived.Test.YtjbeloljbjfibaaSteps
import Derived.Test.YtjbeloljbjfibaaClo54
import Derived.Test.YtjbeloljbjfibaaFill
import Derived.Test.YtjbeloljbjfibaaMods
import Derived.Test.YtjbeloljbjfibaaFills
import Derived.Test.YtjbeloljbjfibaaShape
import Derived.Test.YtjbeloljbjfibaaShapes
import Derived.Test.YtjbeloljbjfibaaCheck
import Derived.Test.YtjbeloljbjfibaaChecks
import Derived.Test.YtjbeloljbjfibaaDims
import Derived.Test.YtjbeloljbjfibaaFlat
import Derived.Test.YtjbeloljbjfibaaNumbers
import Derived.Test.YtjbeloljbjfibaaPrefix
import Derived.Test.YtjbeloljbjfibaaBody
import Derived.Test.YtjbeloljbjfibaaDecode
import Derived.WalkKit
import Derived.ProofKit
import Derived.OpenShut
import Derived.Below
import Derived.WalkLawsBesides
import Derived.Deep.QuietTactic
import Derived.BigQuiet
import Derived.Deep.RegionWith
import Derived.Deep.RegionHeld3
import Derived.Deep.OwnRows
import Derived.Deep.Slices
import Derived.Test.YtjbeloljbjfibaaTrips
import Derived.Test.YtjbeloljbjfibaaCuts
import Derived.Test.YtjbeloljbjfibaaSeeds
import Derived.Test.YtjbeloljbjfibaaInv
namespace Go.Proofs.Ytjbeloljbjfibaa
open Go.ChangeShapes Go.WideShapes Go.ChangeAt Go.RowKit
set_option linter.unusedVariables false

def zeroC : Array Value := #[.int .i64 0, .int .i64 0, .int .i64 0, .int .i64 0, .int .i64 0, .int .i64 0, .int .i64 0, .int .i64 0, nilS, nilS, nilS, nilS]
def zeroM : Value := .agg #[.int .i64 0, .int .i64 0, .int .i64 0, .int .i64 0, .int .i64 0, .int .i64 0, .int .i64 0, .int .i64 0, nilS, nilS, nilS, nilS]

theorem run_load23 {w : World} {cb : Nat} {d h l v u x t n : Int} (q : Blk 23 w cb #[.int .i64 d, .int .i64 h, .int .i64 l, .int .i64 v, .int .i64 u, .int .i64 x, .int .i64 t, .int .i64 n]) : (Instr.loadAt 23 (.pointer (some ⟨cb, 0, none⟩))).run Try.prog w = .ok (.agg #[.int .i64 d, .int .i64 h, .int .i64 l, .int .i64 v, .int .i64 u, .int .i64 x, .int .i64 t, .int .i64 n] : Value) w := by
  obtain ⟨c0, c1, c2, c3, c4, c5, c6, c7⟩ := q.cfg
  go_simp

theorem run_store29 {w : World} {b : Nat} (q : Blk 29 w b zeroC) : ∃ w', (Instr.storeAt 29 (.pointer (some ⟨b, 0, none⟩)) zeroM).run Try.prog w = .ok () w' ∧ Blk 29 w' b zeroC ∧ Only b w w' := by
  have q' : Blk 29 w b #[.int .i64 0, .int .i64 0, .int .i64 0, .int .i64 0, .int .i64 0, .int .i64 0, .int .i64 0, .int .i64 0, nilS, nilS, nilS, nilS] := q
  obtain ⟨z0, z1, z2, z3, z4, z5, z6, z7, z8, z9, z10, z11⟩ := q'.c12
  obtain ⟨o0, o1, o2, o3, o4, o5, o6, o7, o8, o9, o10, o11⟩ := q'.o12
  obtain ⟨W6, eW, q6, only, hz⟩ := set12 q' (.int .i64 0) (.int .i64 0) (.int .i64 0) (.int .i64 0) (.int .i64 0) (.int .i64 0) (.int .i64 0) (.int .i64 0) nilS nilS nilS nilS
  refine ⟨W6, ?_, q6, only⟩
  rw [← eW]
  unfold zeroM
  clear eW q6 only hz q q'
  go_simp

theorem run_alloc29 (w : World) : (Instr.alloc 29 true (.tuple #[])).run Try.prog w = .ok (.pointer (some ⟨w.heap.size, 0, none⟩)) (w.alloc (.cells zeroC 29)) := by
  unfold zeroC
  go_simp

theorem run_build1 (w : World) : (Instr.buildSlice 26 1 #[(0, .int .i8 1)]).run Try.prog w = .ok (.slice (some ⟨w.heap.size, 0, none⟩) 1 1) (w.alloc (.cells #[.int .i8 1] 46)) := by
  go_simp

theorem dep_of {ops : Array Oper} {o : Oper} {l : Nat → Bool} {deps : List Nat} (hp : deps.all (fun d => o.after.any fun e => e.on == d && Region.binds .any e) = true) (hd : ∀ e ∈ o.after, Region.binds .any e = true → l e.on = true) : ∀ d ∈ deps, l d = true := by
  intro d hm
  have := List.all_eq_true.1 hp d hm
  obtain ⟨i, hi, h2⟩ := Array.any_eq_true.1 this
  simp only [Bool.and_eq_true, beq_iff_eq] at h2
  rw [← h2.1]
  exact hd o.after[i] (Array.getElem_mem hi) h2.2


/-- what the region's operations leave, one by one -/
def moreD (i : Nat) : Option Nat := match i with | 0 => some 43 | 1 => some 44 | 2 => some 45 | 3 => some 46 | 4 => some 47 | 5 => some 48 | 6 => some 49 | 7 => some 42 | 8 => some 50 | 9 => some 51 | 10 => some 10 | 11 => none | 12 => some 11 | _ => none
theorem moreD_inj : ∀ i, i < 13 → ∀ j, j < 13 → moreD i = moreD j → moreD i ≠ none → i = j := by decide

def moreF (C : Value) (B : Nat) (r : SL) (zs : List Int) (code : Int) (l : Nat → Bool) (i : Nat) (v : Value) (w : World) : Prop := match i with
  | 0 => v = C
  | 1 => l 3 = false → ∃ g, v = .slice (some ⟨g, 0, none⟩) 0 0 ∧ w.ownsRow B 46 1 (.slice (some ⟨g, 0, none⟩) 0 0) 0 []
  | 2 => v = r.v
  | 3 => l 5 = false → ∃ s : SL, v = s.v ∧ s.n = r.n ∧ w.ownsRow B 46 1 s.v s.n (zs.map (Value.int .i8))
  | 4 => l 5 = false → ∃ g, v = .slice (some ⟨g, 0, none⟩) 1 1 ∧ w.cell? ⟨g, 0, none⟩ = some (.int .i8 1)
  | 5 => ∃ sa c, v = .slice sa (r.n + 1) c
  | 6 => v = .tuple #[zeroM, .int .i64 code]
  | 7 => v = .tuple #[zeroM, .int .i64 code]
  | 8 => v = zeroM
  | 9 => v = .int .i64 code
  | 10 => ∃ b, v = .pointer (some ⟨b, 0, none⟩) ∧ B ≤ b ∧ Blk 29 w b zeroC
  | 12 => v = .int .i64 code
  | _ => True

theorem moreF_below {C : Value} {B : Nat} {r : SL} {zs : List Int} {code : Int} {l l' : Nat → Bool} {i : Nat} {v : Value} {w w' : World} (h : moreF C B r zs code l i v w) (hl : ∀ j, l j = true → l' j = true) (hb : Below w.heap.size w w') : moreF C B r zs code l' i v w' := by
  have ll : ∀ j, l' j = false → l j = false := fun j hj => by
    cases e : l j with
    | false => rfl
    | true => rw [hl j e] at hj; cases hj
  unfold moreF at h ⊢
  split
  · exact h
  · intro h3
    obtain ⟨g, e1, e2⟩ := h (ll 3 h3)
    exact ⟨g, e1, own_kept e2 hb⟩
  · exact h
  · intro h5
    obtain ⟨s, e1, e2, e3⟩ := h (ll 5 h5)
    exact ⟨s, e1, e2, own_kept e3 hb⟩
  · intro h5
    obtain ⟨g, e1, e2⟩ := h (ll 5 h5)
    exact ⟨g, e1, (hb.cell (World.block_lt_of_cell? w _ e2)).trans e2⟩
  · exact h
  · exact h
  · exact h
  · exact h
  · exact h
  · obtain ⟨b, e1, e2, e3⟩ := h
    exact ⟨b, e1, e2, e3.kept hb⟩
  · exact h
  · trivial

set_option maxHeartbeats 2000000 in
theorem more_region {id : Nat} {ops : Array Oper} {Q : Exit → Act → World → Prop} {a0 : Act} {w0 : World} (CV : Value) (r : SL) (zs : List Int) (code : Int) (cb : Nat) (hB : lowB ops = true) (hsz : ops.size = 13)
    (o0 : OpAt ops 0 (some 43) (.load 23 (.tmp 2)) []) (o1 : OpAt ops 1 (some 44) (.buildSlice 26 0 #[]) []) (o2 : OpAt ops 2 (some 45) (.move (.tmp 6)) [])
    (o3 : OpAt ops 3 (some 46) (.call { callee := .builtin .append, args := #[.tmp 44, .tmp 45], argTypes := #[26, 26] }) [1, 2]) (o4 : OpAt ops 4 (some 47) (.buildSlice 26 1 #[(0, .const (.int .i8 1))]) []) (o5 : OpAt ops 5 (some 48) (.call { callee := .builtin .append, args := #[.tmp 46, .tmp 47], argTypes := #[26, 26] }) [3, 4])
    (o6 : OpAt ops 6 (some 49) (.call { callee := .value (.func 24), args := #[.tmp 43, .tmp 48], argTypes := #[23, 26] }) [0, 5]) (o7 : OpAt ops 7 (some 42) (.move (.tmp 49)) [6]) (o8 : OpAt ops 8 (some 50) (.extract (.tmp 42) 0) [7]) (o9 : OpAt ops 9 (some 51) (.extract (.tmp 42) 1) [7])
    (o10 : OpAt ops 10 (some 10) (.alloc 29) []) (o11 : OpAt ops 11 none (.store 29 (.tmp 10) (.tmp 50)) [0, 1, 2, 3, 4, 5, 6, 7, 8, 10]) (o12 : OpAt ops 12 (some 11) (.assign (.tmp 51)) [9])
    (k24 : ∀ W sa c, Calls Try.prog 24 #[CV, .slice sa (r.n + 1) c] W fun e w' => e = .returned (.tuple #[zeroM, .int .i64 code]) ∧ Below W.heap.size W w')
    (ld : ∀ w, Below w0.heap.size w0 w → (Instr.loadAt 23 (.pointer (some ⟨cb, 0, none⟩))).run Try.prog w = .ok CV w) (h2 : a0.tmps.getD 2 undef = .pointer (some ⟨cb, 0, none⟩)) (h6 : a0.tmps.getD 6 undef = r.v) (hr : IsS w0 r zs) (few : zs.length ≤ 100000) (hN : 52 ≤ a0.tmps.size)
    (fin : ∀ a w, a.tmps.size = a0.tmps.size → a.defers = a0.defers → (∀ s, (∀ i, i < 13 → moreD i ≠ some s) → a.tmps.getD s undef = a0.tmps.getD s undef) → a.tmps.getD 11 undef = .int .i64 code → Below w0.heap.size w0 w → Q .normal a w) : (Code.region id ops true).wp Try.prog Q a0 w0 := by
  have hrun : ∀ args w, (callFunc 24 args).run Try.prog w = .ok (.enter 24 args) w := enters Try.func24 (by kernel_rfl) rfl
  refine wp_region_inv (by kernel_rfl) hB (Inv 13 moreD a0 (fun _ _ w => Below w0.heap.size w0 w) (moreF CV w0.heap.size r zs code)) (Inv.start (below_drew (Below.refl _ _) ⟨1, rfl⟩)) ?_ ?_
  · intro l i o a w ho hl hdep hI
    have hi : i < 13 := by rw [← hsz]; exact (Array.getElem?_eq_some_iff.1 ho).1
    have hb := hI.world
    have hsB := hb.size
    have inj : ∀ d, moreD i = some d → ∀ j d', j < 13 → moreD j = some d' → j ≠ i → d' ≠ d := fun d hd j d' hj hd' hne e => hne (moreD_inj j hj i hi (by rw [hd, hd', e]) (by rw [hd']; simp))
    have sub : ∀ j, l j = true → (fun j => l j || j == i) j = true := fun j hj => by simp [hj]
    have ev : ∀ (s : Nat), a.eval (.tmp s) = a.tmps.getD s undef := fun _ => rfl
    have ke : ∀ s, (∀ i, i < 13 → moreD i ≠ some s) → a.eval (.tmp s) = a0.tmps.getD s undef := fun s hs => hI.kept s hs
    have pure_ : ∀ {d v}, moreD i = some d → d < 52 → moreF CV w0.heap.size r zs code (fun j => l j || j == i) i v w → Inv 13 moreD a0 (fun _ _ w => Below w0.heap.size w0 w) (moreF CV w0.heap.size r zs code) (fun j => l j || j == i) (a.put (some d) v) w := fun hD hd hF => hI.put hi hD (by omega) (inj _ hD) hb hF fun j u _ _ _ hf => moreF_below hf sub (Below.refl _ _)
    have newW : ∀ {d v w'}, moreD i = some d → d < 52 → Below w.heap.size w w' → moreF CV w0.heap.size r zs code (fun j => l j || j == i) i v w' → Inv 13 moreD a0 (fun _ _ w => Below w0.heap.size w0 w) (moreF CV w0.heap.size r zs code) (fun j => l j || j == i) (a.put (some d) v) w' := fun hD hd hw hF => hI.put hi hD (by omega) (inj _ hD) (below_then hb hw) hF fun j u _ _ _ hf => moreF_below hf sub hw
    rcases (show i = 0 ∨ i = 1 ∨ i = 2 ∨ i = 3 ∨ i = 4 ∨ i = 5 ∨ i = 6 ∨ i = 7 ∨ i = 8 ∨ i = 9 ∨ i = 10 ∨ i = 11 ∨ i = 12 by omega) with rfl | rfl | rfl | rfl | rfl | rfl | rfl | rfl | rfl | rfl | rfl | rfl | rfl
    · obtain ⟨o', e1, e2, e3, e4, e5⟩ := o0
      obtain rfl := Option.some.inj (ho.symm.trans e1)
      refine wpOp_value (v := CV) (w' := w) ho e4 ?_ (by rw [e2]; exact pure_ rfl (by decide) rfl)
      simp [execOp, e3, ke 2 (by decide), h2, ld w hb]
    · obtain ⟨o', e1, e2, e3, e4, e5⟩ := o1
      obtain rfl := Option.some.inj (ho.symm.trans e1)
      refine wpOp_value (v := .slice (some ⟨w.heap.size, 0, none⟩) 0 0) (w' := w.alloc (.cells #[] 46)) ho e4 ?_ (by rw [e2]; exact newW rfl (by decide) (below_new (Below.refl _ _) _) (fun _ => ⟨_, rfl, World.ownsRow_lit (base := w0.heap.size) (size := 1) w #[] 0 hsB (by unfold maxLen; omega) (by simp)⟩))
      simp [execOp, e3, run_build0]
    · obtain ⟨o', e1, e2, e3, e4, e5⟩ := o2
      obtain rfl := Option.some.inj (ho.symm.trans e1)
      refine wpOp_value (v := r.v) (w' := w) ho e4 ?_ (by rw [e2]; exact pure_ rfl (by decide) rfl)
      simp [execOp, e3, ke 6 (by decide), h6]
    · obtain ⟨o', e1, e2, e3, e4, e5⟩ := o3
      obtain rfl := Option.some.inj (ho.symm.trans e1)
      have dp := dep_of (ops := ops) e5 hdep
      obtain ⟨g, ev1, own1⟩ := hI.val 1 44 (by decide) rfl (dp 1 (by decide)) hl
      have ev2 : a.tmps.getD 45 undef = r.v := hI.val 2 45 (by decide) rfl (dp 2 (by decide))
      obtain ⟨s', w', hrn, hn, hbw, own'⟩ := run_copy_own w g w0.heap.size o.type r zs (hr.below hb) (by omega) own1 hsB
      refine wpOp_value (v := s'.v) (w' := w') ho e4 ?_ (by rw [e2]; exact newW rfl (by decide) hbw (fun _ => ⟨s', rfl, hn, own'⟩))
      simp only [execOp, e3, resolve, invoke, builtin, Sem.run_bind, Sem.run_pure, Result.andThen_ok, List.map_toArray, List.map_cons, List.map_nil, ev, ev1, ev2, SL.v, hrn]
    · obtain ⟨o', e1, e2, e3, e4, e5⟩ := o4
      obtain rfl := Option.some.inj (ho.symm.trans e1)
      refine wpOp_value (v := .slice (some ⟨w.heap.size, 0, none⟩) 1 1) (w' := w.alloc (.cells #[.int .i8 1] 46)) ho e4 ?_ (by rw [e2]; exact newW rfl (by decide) (below_new (Below.refl _ _) _) (fun _ => ⟨_, rfl, (Blk.new 46 w #[.int .i8 1]).cell 0 rfl⟩))
      simp [execOp, e3, Act.eval, run_build1]
    · obtain ⟨o', e1, e2, e3, e4, e5⟩ := o5
      obtain rfl := Option.some.inj (ho.symm.trans e1)
      have dp := dep_of (ops := ops) e5 hdep
      obtain ⟨s, ev1, hn, own1⟩ := hI.val 3 46 (by decide) rfl (dp 3 (by decide)) hl
      obtain ⟨g, ev2, cel⟩ := hI.val 4 47 (by decide) rfl (dp 4 (by decide)) hl
      obtain ⟨i0, hi0, hz0, hz1, hz2⟩ := i46'
      have hlen := hr.reads.len
      obtain ⟨v', w', hrn, own', hg, _⟩ := run_append_own (P := Try.prog) (w := w) w0.heap.size 26 o.type 46 i0 (.int .i8 0) 1 1 Try.underlying26 hi0 hz0 hz1 hz2 rfl (by decide) s.v s.n _ own1 ⟨g, 0, none⟩ 1 1 [.int .i8 1] rfl (fun j u hj => by
        match j, hj with
        | 0, hj => simp at hj; subst hj; simpa [Addr.add] using cel) (one_oneCell _ _) (by unfold maxLen; omega) (by omega) hsB
      obtain ⟨sa, c, es⟩ : ∃ sa c, v' = .slice sa (r.n + 1) c := by
        rcases own'.2 with ⟨e, e'⟩ | ⟨g', cap, cur, e, _⟩
        · omega
        · exact ⟨_, _, by rw [e, hn]⟩
      have hbw : Below w0.heap.size w0 w' := hb.grown hg hsB fun g' h' => (own1.lt g' h').1
      have ne : ∀ b, Blk 29 w b zeroC → Blk 29 w' b zeroC := fun b hq => by
        refine (hg.block b hq.lt fun e => ?_).trans hq
        rcases own1.2 with ⟨e', _⟩ | ⟨g', cap, cur, e', _, hh, _⟩
        · rw [e'] at e; cases e
        · rw [e'] at e
          obtain rfl : b = g' := by simpa [Value.ownBlock] using e
          have hq' : w.heap[b]? = some (.cells zeroC 29 (0, 0)) := hq
          rw [hq'] at hh
          simp at hh
      refine wpOp_value (v := v') (w' := w') ho e4 ?_ ?_
      · simp only [execOp, e3, resolve, invoke, builtin, Sem.run_bind, Sem.run_pure, Result.andThen_ok, List.map_toArray, List.map_cons, List.map_nil, ev, ev1, ev2, hrn]
      · rw [e2]
        refine hI.put hi rfl (by omega) (inj _ rfl) hbw ⟨sa, c, es⟩ fun j u hj hlj hne hf => ?_
        rcases (show j = 0 ∨ j = 1 ∨ j = 2 ∨ j = 3 ∨ j = 4 ∨ j = 6 ∨ j = 7 ∨ j = 8 ∨ j = 9 ∨ j = 10 ∨ j = 11 ∨ j = 12 by omega) with rfl | rfl | rfl | rfl | rfl | rfl | rfl | rfl | rfl | rfl | rfl | rfl
        · exact hf
        · intro h3
          simp [dp 3 (by decide)] at h3
        · exact hf
        · intro h5; simp at h5
        · intro h5; simp at h5
        · exact hf
        · exact hf
        · exact hf
        · exact hf
        · obtain ⟨b, f1, f2, f3⟩ := hf
          exact ⟨b, f1, f2, ne b f3⟩
        · exact hf
        · exact hf
    · obtain ⟨o', e1, e2, e3, e4, e5⟩ := o6
      obtain rfl := Option.some.inj (ho.symm.trans e1)
      have dp := dep_of (ops := ops) e5 hdep
      have ev1 : a.tmps.getD 43 undef = CV := hI.val 0 43 (by decide) rfl (dp 0 (by decide))
      obtain ⟨sa, c, ev2⟩ := hI.val 5 48 (by decide) rfl (dp 5 (by decide))
      refine wpOp_call (f := 24) (args := #[CV, .slice sa (r.n + 1) c]) ho e4 ?_ ((k24 w sa c).mono fun e w' hh => ⟨_, hh.1, by rw [e2]; exact newW rfl (by decide) hh.2 rfl⟩)
      simp [execOp, e3, resolve, invoke, ev, ev1, ev2, Deferred.ofValue, hrun, show a.eval (.func 24) = .func (.func 24) #[] #[] from rfl]
    · obtain ⟨o', e1, e2, e3, e4, e5⟩ := o7
      obtain rfl := Option.some.inj (ho.symm.trans e1)
      have dp := dep_of (ops := ops) e5 hdep
      have ev1 : a.tmps.getD 49 undef = .tuple #[zeroM, .int .i64 code] := hI.val 6 49 (by decide) rfl (dp 6 (by decide))
      refine wpOp_value (v := .tuple #[zeroM, .int .i64 code]) (w' := w) ho e4 ?_ (by rw [e2]; exact pure_ rfl (by decide) rfl)
      simp [execOp, e3, ev, ev1]
    · obtain ⟨o', e1, e2, e3, e4, e5⟩ := o8
      obtain rfl := Option.some.inj (ho.symm.trans e1)
      have dp := dep_of (ops := ops) e5 hdep
      have ev1 : a.tmps.getD 42 undef = .tuple #[zeroM, .int .i64 code] := hI.val 7 42 (by decide) rfl (dp 7 (by decide))
      refine wpOp_value (v := zeroM) (w' := w) ho e4 ?_ (by rw [e2]; exact pure_ rfl (by decide) rfl)
      simp [execOp, e3, ev, ev1, Instr.extract]
    · obtain ⟨o', e1, e2, e3, e4, e5⟩ := o9
      obtain rfl := Option.some.inj (ho.symm.trans e1)
      have dp := dep_of (ops := ops) e5 hdep
      have ev1 : a.tmps.getD 42 undef = .tuple #[zeroM, .int .i64 code] := hI.val 7 42 (by decide) rfl (dp 7 (by decide))
      refine wpOp_value (v := .int .i64 code) (w' := w) ho e4 ?_ (by rw [e2]; exact pure_ rfl (by decide) rfl)
      simp [execOp, e3, ev, ev1, Instr.extract]
    · obtain ⟨o', e1, e2, e3, e4, e5⟩ := o10
      obtain rfl := Option.some.inj (ho.symm.trans e1)
      refine wpOp_value (v := .pointer (some ⟨w.heap.size, 0, none⟩)) (w' := w.alloc (.cells zeroC 29)) ho e4 ?_ (by rw [e2]; exact newW rfl (by decide) (below_new (Below.refl _ _) _) ⟨_, rfl, hsB, Blk.new 29 w zeroC⟩)
      simp [execOp, e3, run_alloc29]
    · obtain ⟨o', e1, e2, e3, e4, e5⟩ := o11
      obtain rfl := Option.some.inj (ho.symm.trans e1)
      have dp := dep_of (ops := ops) e5 hdep
      obtain ⟨b, ev1, hbB, hq⟩ := hI.val 10 10 (by decide) rfl (dp 10 (by decide))
      have ev2 : a.tmps.getD 50 undef = zeroM := hI.val 8 50 (by decide) rfl (dp 8 (by decide))
      obtain ⟨w', hrn, hq', honly⟩ := run_store29 hq
      have hbw : Below w0.heap.size w0 w' := Only.below hb hbB hsB honly
      refine wpOp_skip (w' := w') ho e4 ?_ ?_
      · simp [execOp, e3, ev, ev1, ev2, hrn]
      · rw [e2]
        refine hI.none_ rfl hbw fun j u hj hlj hne hf => ?_
        rcases (show j = 0 ∨ j = 1 ∨ j = 2 ∨ j = 3 ∨ j = 4 ∨ j = 5 ∨ j = 6 ∨ j = 7 ∨ j = 8 ∨ j = 9 ∨ j = 10 ∨ j = 12 by omega) with rfl | rfl | rfl | rfl | rfl | rfl | rfl | rfl | rfl | rfl | rfl | rfl
        · exact hf
        · intro h3
          simp [dp 3 (by decide)] at h3
        · exact hf
        · intro h5
          simp [dp 5 (by decide)] at h5
        · intro h5
          simp [dp 5 (by decide)] at h5
        · exact hf
        · exact hf
        · exact hf
        · exact hf
        · exact hf
        · obtain ⟨b', f1, f2, f3⟩ := hf
          refine ⟨b', f1, f2, ?_⟩
          by_cases eb : b' = b
          · rw [eb]; exact hq'
          · exact (honly.block b' f3.lt (fun e => eb (by simpa using e))).trans f3
        · exact hf
    · obtain ⟨o', e1, e2, e3, e4, e5⟩ := o12
      obtain rfl := Option.some.inj (ho.symm.trans e1)
      have dp := dep_of (ops := ops) e5 hdep
      have ev1 : a.tmps.getD 51 undef = .int .i64 code := hI.val 9 51 (by decide) rfl (dp 9 (by decide))
      refine wpOp_value (v := .int .i64 code) (w' := w) ho e4 ?_ (by rw [e2]; exact pure_ rfl (by decide) rfl)
      simp [execOp, e3, ev, ev1]
  · intro l a w hall hI
    exact fin a w hI.size hI.defers hI.kept (hI.val 12 11 (by decide) rfl (hall 12 (by omega))) hI.world

end Go.Proofs.Ytjbeloljbjfibaa
