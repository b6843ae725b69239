/- Regions that draw their order, by what holds between their operations, within a round of a loop and outside. -/
import Derived.Test.YtkjmlbllpnehlaaRows
import Derived.WalkKit
import Derived.ProofKit
import Derived.OpenShut
import Derived.Below
import Derived.WalkLawsBesides
import Derived.Deep.QuietTactic
import Derived.BigQuiet
import Derived.Shelf.Abstract
import Derived.Orders
namespace Go.Proofs.Ytkjmlbllpnehlaa
set_option maxRecDepth 20000

open Go.ChangeShapes Go.WideShapes Go.ChangeAt Go.RowKit

set_option linter.unusedVariables false

/-- each operation waits for those ahead of it alone -/
def lowB (ops : Array Oper) : Bool := (List.range ops.size).all fun i => ((ops[i]?).map fun o => o.after.all fun e => !Region.binds .any e || decide (e.on < i)).getD true

theorem low_of {ops : Array Oper} (h : lowB ops = true) {i : Nat} {o : Oper} (hi : ops[i]? = some o) : ∀ e ∈ o.after, Region.binds .any e = true → e.on < i := by
  intro e he hb
  have hlt : i < ops.size := (Array.getElem?_eq_some_iff.1 hi).1
  have := List.all_eq_true.1 h i (List.mem_range.2 hlt)
  simp only [hi, Option.map_some, Option.getD_some] at this
  have := (Array.all_eq_true_iff_forall_mem.1 this) e he
  simp only [hb, Bool.not_true, Bool.false_or, decide_eq_true_eq] at this
  exact this

theorem all_listed {ops : Array Oper} (h : lowB ops = true) {listed : Array Bool} (hr : Region.ready .any ops listed = []) (hs : listed.size = ops.size) : ∀ i, i < ops.size → listed.getD i false = true := by
  intro i
  induction i using Nat.strongRecOn with
  | _ i ih =>
    intro hi
    cases hl : listed.getD i false with
    | true => rfl
    | false =>
      exfalso
      have ho : ops[i]? = some ops[i] := by simp [hi]
      have : i ∈ Region.ready .any ops listed := mem_ready.2 ⟨by
        rw [Array.getD_eq_getD_getElem?] at hl ⊢
        rw [Array.getElem?_eq_getElem (by omega)] at hl ⊢
        simpa using hl, ops[i], ho, fun e he hb => by
          have := low_of h ho e he hb
          exact ih e.on this (by omega)⟩
      rw [hr] at this
      cases this

theorem wp_region_inv {P : Program} {ops : Array Oper} {Q : Exit → Act → World → Prop} {id : Nat} {a : Act} {w : World} (hm : P.follows .mixedOrders = true) (hB : lowB ops = true) (I : (Nat → Bool) → Act → World → Prop)
    (h0 : I (fun _ => false) a { w with drawn := w.drawn + 1 })
    (step : ∀ l i o a w, ops[i]? = some o → l i = false → (∀ e ∈ o.after, Region.binds .any e = true → l e.on = true) → I l a w → wpOp P ops Q i (fun a' w' => I (fun j => l j || j == i) a' w') a w)
    (fin : ∀ l a w, (∀ i, i < ops.size → l i = true) → I l a w → Q .normal a w) : (Code.region id ops true).wp P Q a w := by
  refine wp_region_any hm ?_
  have key : ∀ fuel (listed : Array Bool) a w, listed.size = ops.size → listed.toList.countP (fun b => !b) ≤ fuel → I (fun j => listed.getD j false) a w → wpAny P .any ops Q fuel listed a w := by
    intro fuel
    induction fuel with
    | zero =>
      intro listed a w hs hc hI
      have all : ∀ i, i < listed.size → listed.getD i false = true := fun i hi => by
        have h1 : listed.toList.countP (fun b => !b) = 0 := by omega
        have := (List.countP_eq_zero.1 h1) listed[i] (by simp)
        rw [Array.getD_eq_getD_getElem?, Array.getElem?_eq_getElem hi]
        simpa using this
      have hr : Region.ready .any ops listed = [] := by
        apply List.eq_nil_iff_forall_not_mem.2
        intro j hj
        obtain ⟨h1, o, ho, _⟩ := mem_ready.1 hj
        have hlt : j < listed.size := by rw [hs]; exact (Array.getElem?_eq_some_iff.1 ho).1
        have := all j hlt
        rw [Array.getD_eq_getD_getElem?, Array.getElem?_eq_getElem hlt] at h1 this
        simp at h1 this
        rw [h1] at this
        cases this
      exact ⟨hr, fin _ a w (fun i hi => all i (by omega)) hI⟩
    | succ fuel ih =>
      intro listed a w hs hc hI
      refine ⟨fun hr => fin _ a w (all_listed hB hr hs) hI, fun i hi => ?_⟩
      obtain ⟨h1, o, ho, hd⟩ := mem_ready.1 hi
      have hlt : i < listed.size := by rw [hs]; exact (Array.getElem?_eq_some_iff.1 ho).1
      have hf : listed[i] = false := by
        rw [Array.getD_eq_getD_getElem?, Array.getElem?_eq_getElem hlt] at h1
        simpa using h1
      refine wpOp_mono ?_ (step _ i o a w ho (by rw [Array.getD_eq_getD_getElem?, Array.getElem?_eq_getElem hlt]; simpa using hf) hd hI)
      intro a' w' hI'
      refine ih _ a' w' (by simp [hs]) ?_ ?_
      · have h2 : (listed.setIfInBounds i true).toList = listed.toList.set i true := by simp
        rw [h2, List.countP_set (by simpa using hlt)]
        have h3 : 0 < listed.toList.countP (fun b => !b) := List.countP_pos_iff.2 ⟨listed[i], by simp, by simp [hf]⟩
        rw [if_pos (by simp [hf]), if_neg (by simp)]
        omega
      · have e : (fun j => (listed.setIfInBounds i true).getD j false) = fun j => listed.getD j false || j == i := by
          funext j
          by_cases hj : i = j
          · subst hj
            simp [Array.getD_eq_getD_getElem?, hlt]
          · rw [getD_set_ne false hj]
            have : (j == i) = false := by simp; omega
            rw [this, Bool.or_false]
        rw [e]
        exact hI'
  refine key _ _ _ _ (by simp) ?_ ?_
  · refine Nat.le_trans List.countP_le_length ?_
    simp
  · have e : (fun j => (Array.replicate ops.size false).getD j false) = fun _ => false := by
      funext j
      rw [Array.getD_eq_getD_getElem?, Array.getElem?_replicate]
      split <;> rfl
    rw [e]
    exact h0

/-- a step that only yields a value -/
theorem wpOp_value {P : Program} {ops : Array Oper} {Q : Exit → Act → World → Prop} {i : Nat} {o : Oper} {a : Act} {w w' : World} {v : Value} {K : Act → World → Prop} (ho : ops[i]? = some o) (hg : o.guard = none) (hr : (execOp a.eval o).run P w = .ok (.value v) w') (hK : K (a.put o.dst v) w') : wpOp P ops Q i K a w := by
  unfold wpOp
  simp only [ho]
  have hw : Region.wanted o (yielded ops a.tmps) = true := by simp [Region.wanted, hg]
  rw [if_pos hw]
  refine .inl ?_
  unfold Oper.wp
  rw [hr]
  exact hK

theorem wpOp_skip {P : Program} {ops : Array Oper} {Q : Exit → Act → World → Prop} {i : Nat} {o : Oper} {a : Act} {w w' : World} {K : Act → World → Prop} (ho : ops[i]? = some o) (hg : o.guard = none) (hr : (execOp a.eval o).run P w = .ok .skip w') (hK : K (a.put o.dst undef) w') : wpOp P ops Q i K a w := by
  unfold wpOp
  simp only [ho]
  have hw : Region.wanted o (yielded ops a.tmps) = true := by simp [Region.wanted, hg]
  rw [if_pos hw]
  refine .inl ?_
  unfold Oper.wp
  rw [hr]
  exact hK

theorem get_put (a : Act) (d : Tmp) (v : Value) (s : Nat) (h : d < a.tmps.size) : (a.put (some d) v).tmps.getD s undef = if s = d then v else a.tmps.getD s undef := by
  show (a.tmps.setIfInBounds d v).getD s undef = _
  rw [Array.getD_eq_getD_getElem?, Array.getElem?_setIfInBounds]
  by_cases e : d = s
  · subst e
    simp [h]
  · rw [if_neg e, if_neg (Ne.symm e), Array.getD_eq_getD_getElem?]

theorem tmps_all (t : Array Value) (n : Nat) (h : t.size = n) : t = ((List.range n).map fun s => t.getD s undef).toArray := by
  apply Array.ext
  · simp [h]
  · intro i h1 h2
    simp [Array.getD_eq_getD_getElem?, h1]

theorem wpOp_call {P : Program} {ops : Array Oper} {Q : Exit → Act → World → Prop} {i : Nat} {o : Oper} {a : Act} {w : World} {f : FuncId} {args : Array Value} {K : Act → World → Prop} (ho : ops[i]? = some o) (hg : o.guard = none) (hr : (execOp a.eval o).run P w = .ok (.enter f args) w)
    (c : Calls P f args w fun e w' => ∃ v, e = .returned v ∧ K (a.put o.dst v) w') : wpOp P ops Q i K a w := by
  unfold wpOp
  simp only [ho]
  have hw : Region.wanted o (yielded ops a.tmps) = true := by simp [Region.wanted, hg]
  rw [if_pos hw]
  refine .inl ?_
  unfold Oper.wp
  rw [hr]
  unfold Oper.upon
  refine c.mono ?_
  rintro e w' ⟨v, rfl, hK⟩
  exact hK

/-- what holds between a region's operations: D: where each leaves its value, F: what is known of it, R: what is known of the world -/

structure Inv (N : Nat) (D : Nat → Option Nat) (a0 : Act) (R : (Nat → Bool) → Act → World → Prop) (F : (Nat → Bool) → Nat → Value → World → Prop) (l : Nat → Bool) (a : Act) (w : World) : Prop where
  size : a.tmps.size = a0.tmps.size
  defers : a.defers = a0.defers
  kept : ∀ s, (∀ i, i < N → D i ≠ some s) → a.tmps.getD s undef = a0.tmps.getD s undef
  world : R l a w
  val : ∀ i d, i < N → D i = some d → l i = true → F l i (a.tmps.getD d undef) w

variable {N : Nat} {D : Nat → Option Nat} {a0 : Act} {R : (Nat → Bool) → Act → World → Prop} {F : (Nat → Bool) → Nat → Value → World → Prop} {l : Nat → Bool} {a : Act} {w : World}

theorem Inv.start (hw : R (fun _ => false) a0 w) : Inv N D a0 R F (fun _ => false) a0 w := ⟨rfl, rfl, fun _ _ => rfl, hw, fun _ _ _ _ h => by cases h⟩

theorem Inv.put (h : Inv N D a0 R F l a w) {i d : Nat} {v : Value} {w' : World} (hi : i < N) (hD : D i = some d) (hd : d < a0.tmps.size) (inj : ∀ j d', j < N → D j = some d' → j ≠ i → d' ≠ d)
    (hR : R (fun j => l j || j == i) (a.put (some d) v) w') (hF : F (fun j => l j || j == i) i v w') (mono : ∀ j u, j < N → l j = true → j ≠ i → F l j u w → F (fun j => l j || j == i) j u w') :
    Inv N D a0 R F (fun j => l j || j == i) (a.put (some d) v) w' := by
  have hd' : d < a.tmps.size := by rw [h.size]; exact hd
  refine ⟨by show (a.tmps.setIfInBounds d v).size = _; rw [Array.size_setIfInBounds]; exact h.size, h.defers, fun s hs => ?_, hR, fun j d' hj hDj hl => ?_⟩
  · rw [get_put a d v s hd', if_neg (fun e => hs i hi (by rw [e]; exact hD))]
    exact h.kept s hs
  · rw [get_put a d v d' hd']
    by_cases e : j = i
    · subst e
      obtain rfl := Option.some.inj (hD.symm.trans hDj)
      rw [if_pos rfl]
      exact hF
    · rw [if_neg (inj j d' hj hDj e)]
      have hl' : l j = true := by simpa [e] using hl
      exact mono j _ hj hl' e (h.val j d' hj hDj hl')

theorem Inv.none_ (h : Inv N D a0 R F l a w) {i : Nat} {w' : World} (hD : D i = none) (hR : R (fun j => l j || j == i) a w') (mono : ∀ j u, j < N → l j = true → j ≠ i → F l j u w → F (fun j => l j || j == i) j u w') :
    Inv N D a0 R F (fun j => l j || j == i) a w' := by
  refine ⟨h.size, h.defers, h.kept, hR, fun j d' hj hDj hl => ?_⟩
  have e : j ≠ i := fun e => by rw [e, hD] at hDj; cases hDj
  have hl' : l j = true := by simpa [e] using hl
  exact mono j _ hj hl' e (h.val j d' hj hDj hl')

theorem frame_puts {a : Act} (W : List Nat) : ∀ {b : Act}, a.tmps.size = b.tmps.size → a.defers = b.defers → (∀ s, s ∉ W → a.tmps.getD s undef = b.tmps.getD s undef) → a = W.foldl (fun b s => b.put (some s) (a.tmps.getD s undef)) b := by
  induction W with
  | nil =>
    intro b hs hd hk
    obtain ⟨ta, da⟩ := a
    obtain ⟨tb, db⟩ := b
    simp only at hs hd hk
    subst hd
    show Act.mk ta da = Act.mk tb da
    congr 1
    apply Array.ext hs
    intro i h1 h2
    have := hk i (by simp)
    simpa [Array.getD_eq_getD_getElem?, h1, h2] using this
  | cons s W ih =>
    intro b hs hd hk
    refine ih ?_ ?_ ?_
    · show _ = (b.tmps.setIfInBounds s _).size
      rw [Array.size_setIfInBounds]
      exact hs
    · exact hd
    · intro s' h'
      by_cases h1 : s < b.tmps.size
      · rw [get_put b s _ s' h1]
        by_cases e : s' = s
        · rw [if_pos e, e]
        · rw [if_neg e]
          exact hk s' (by simp [e, h'])
      · have e1 : (b.put (some s) (a.tmps.getD s undef)).tmps = b.tmps := by show b.tmps.setIfInBounds s _ = _; rw [Array.setIfInBounds_eq_of_size_le (by omega)]
        rw [e1]
        by_cases e : s' = s
        · subst e
          rw [Array.getD_eq_getD_getElem?, Array.getD_eq_getD_getElem?, Array.getElem?_eq_none (by omega), Array.getElem?_eq_none (by omega)]
        · exact hk s' (by simp [e, h'])

/-- what was done had what it waits for done -/
def Closed (ops : Array Oper) (l : Nat → Bool) : Prop := ∀ i o, ops[i]? = some o → l i = true → ∀ e ∈ o.after, Region.binds .any e = true → l e.on = true

theorem wp_region_inv2 {P : Program} {ops : Array Oper} {Q : Exit → Act → World → Prop} {id : Nat} {a : Act} {w : World} (hm : P.follows .mixedOrders = true) (hB : lowB ops = true) (I : (Nat → Bool) → Act → World → Prop)
    (h0 : I (fun _ => false) a { w with drawn := w.drawn + 1 })
    (step : ∀ l i o a w, ops[i]? = some o → l i = false → Closed ops l → (∀ e ∈ o.after, Region.binds .any e = true → l e.on = true) → I l a w → wpOp P ops Q i (fun a' w' => I (fun j => l j || j == i) a' w') a w)
    (fin : ∀ l a w, (∀ i, i < ops.size → l i = true) → I l a w → Q .normal a w) : (Code.region id ops true).wp P Q a w := by
  refine wp_region_inv hm hB (fun l a w => Closed ops l ∧ I l a w) ⟨(fun i o _ h => by cases h), h0⟩ ?_ ?_
  · rintro l i o a w ho hl hdep ⟨hc, hI⟩
    refine wpOp_mono ?_ (step l i o a w ho hl hc hdep hI)
    intro a' w' hI'
    refine ⟨fun j o' ho' hj e he hb => ?_, hI'⟩
    simp only [Bool.or_eq_true, beq_iff_eq] at hj ⊢
    rcases hj with hj | hj
    · exact .inl (hc j o' ho' hj e he hb)
    · subst hj
      obtain rfl := Option.some.inj (ho.symm.trans ho')
      exact .inl (hdep e he hb)
  · rintro l a w hall ⟨_, hI⟩
    exact fin l a w hall hI

theorem dep_of' {o : Oper} {l : Nat → Bool} {deps : List Nat} (hp : deps.all (fun d => o.after.any fun e => e.on == d && Region.binds .any e) = true) (hd : ∀ e ∈ o.after, Region.binds .any e = true → l e.on = true) : ∀ d ∈ deps, l d = true := by
  intro d hm
  have := List.all_eq_true.1 hp d hm
  obtain ⟨i, hi, h2⟩ := Array.any_eq_true.1 this
  simp only [Bool.and_eq_true, beq_iff_eq] at h2
  rw [← h2.1]
  exact hd o.after[i] (Array.getElem_mem hi) h2.2

def OpIn (ops : Array Oper) (i : Nat) (dst : Option Tmp) (op : Op) (g : Option (Nat × Bool)) (deps : List Nat) : Prop :=
  ∃ o, ops[i]? = some o ∧ o.dst = dst ∧ o.op = op ∧ o.guard = g ∧ deps.all (fun d => o.after.any fun e => e.on == d && Region.binds .any e) = true

theorem Closed.dep' {ops : Array Oper} {l : Nat → Bool} (h : Closed ops l) {i : Nat} {d : Option Tmp} {op : Op} {g : Option (Nat × Bool)} {deps : List Nat} (ho : OpIn ops i d op g deps) (hi : l i = true) : ∀ q ∈ deps, l q = true := by
  obtain ⟨o, e1, _, _, _, e5⟩ := ho
  exact dep_of' e5 fun e he hb => h i o e1 hi e he hb

end Go.Proofs.Ytkjmlbllpnehlaa
