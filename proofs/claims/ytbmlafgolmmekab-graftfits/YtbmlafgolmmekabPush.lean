/- Layers that are put behind layers; regions that draw their order, with what was done ahead. -/
import Derived.Test.YtbmlafgolmmekabRows
import Derived.Test.YtbmlafgolmmekabView
import Derived.Test.YtbmlafgolmmekabOwn
import Derived.Test.YtbmlafgolmmekabCfg
import Derived.Test.YtbmlafgolmmekabCfgs
import Derived.Test.YtbmlafgolmmekabCfgRef
import Derived.Test.YtbmlafgolmmekabHeld
import Derived.Test.YtbmlafgolmmekabReader
import Derived.Test.YtbmlafgolmmekabSls
import Derived.Test.YtbmlafgolmmekabSteps
import Derived.Test.YtbmlafgolmmekabInv
import Derived.Test.YtbmlafgolmmekabTyped
import Derived.Test.YtbmlafgolmmekabAds
import Derived.Test.YtbmlafgolmmekabRanges
import Derived.WalkKit
import Derived.ProofKit
import Derived.OpenShut
import Derived.Below
import Derived.WalkLawsBesides
import Derived.Deep.QuietTactic
import Derived.BigQuiet
import Derived.Lib.QuietBelow
import Derived.Deep.RegionHeld3
import Derived.Orders
import Derived.ArgAppend
import Derived.Maps.AppendAt
namespace Go.Proofs.Ytbmlafgolmmekab
open Go.ChangeShapes Go.WideShapes Go.ChangeAt Go.RowKit
open Go.Sort hiding Below
set_option linter.unusedVariables false


def four (a b c d : SL) (r : Nat) : SL := match r with | 0 => a | 1 => b | 2 => c | _ => d

theorem run_push (w : World) (ty : TypeId) (B k : Nat) (v : Value) (Y : Nat → Nat → SL) (f : Nat → Nat → List Int) (y : Nat → SL) (g c : Nat) (hT : TA B w v k Y f) (hc : Blk 47 w g #[(y 0).v, (y 1).v, (y 2).v, (y 3).v]) (hy : ∀ j, j < 4 → TS B w (y j) (f k j)) (hl : (k + 1) * 96 ≤ 140737488355328) (hB : B ≤ w.heap.size) :
    ∃ v' w', (Builtin.append_ #[22, 22] ty #[v, .slice (some ⟨g, 0, none⟩) 1 c]).run Try.prog w = .ok v' w' ∧ Below B w w' ∧ Keeps 24 w w' ∧ Keeps 75 w w' ∧ TA B w' v' (k + 1) (upd Y k y) f := by
  obtain ⟨i0, hi, hz0, hz1, hz2⟩ := i47'
  obtain ⟨v', w', hr, own', hg, _, _⟩ := run_append_own_at (P := Try.prog) (w := w) B 22 ty 47 i0 _ 4 96 Try.underlying22 hi hz0 hz1 hz2 rfl (by decide) v k _ hT.own ⟨g, 0, none⟩ 1 c ((List.range 4).map fun r => (y r).v) (by simp) (fun j u hj => by
    have e : (⟨g, 0, none⟩ : Addr).add j = ⟨g, j, none⟩ := by by_cases h : j = 0 <;> simp [Addr.add, h]
    rw [e]
    exact hc.cell j (by have hj' : [(y 0).v, (y 1).v, (y 2).v, (y 3).v][j]? = some u := hj
                        simpa using hj')) (fun u hu => by obtain ⟨r, _, rfl⟩ := List.mem_map.1 hu; rfl) (by unfold maxLen; omega) hl hB
  have k62 : Keeps 41 w w' := Keeps.of_own hg hT.own (by decide)
  refine ⟨v', w', hr, (Below.refl B w).grown hg hB fun g h => (hT.own.lt g h).1, Keeps.of_own hg hT.own (by decide), Keeps.of_own hg hT.own (by decide), ?_, fun i hi j hj => ?_⟩
  · rw [cells4_succ, upd_same, cells4_congr (Y' := Y) (fun i hi r _ => by rw [upd_other Y k y (by omega)])]
    exact own'
  · by_cases e : i = k
    · subst e
      rw [upd_same]
      exact (hy j hj).step k62
    · rw [upd_other Y k y e]
      exact (hT.lay i (by omega) j hj).step k62

/-- a layer is put behind layers -/
theorem wpList_layer {ops : Array Oper} {rest : List Oper} {o : Oper} {a : Act} {w : World} {Q : Exit → Act → World → Prop} (hgd : o.guard = none) (s x : Operand) (ho : o.op = .call { callee := .builtin .append, args := #[s, x], argTypes := #[22, 22] })
    (B k : Nat) (v : Value) (Y : Nat → Nat → SL) (f : Nat → Nat → List Int) (y : Nat → SL) (g c : Nat) (hs : a.eval s = v) (hx : a.eval x = .slice (some ⟨g, 0, none⟩) 1 c) (hT : TA B w v k Y f) (hc : Blk 47 w g #[(y 0).v, (y 1).v, (y 2).v, (y 3).v]) (hy : ∀ j, j < 4 → TS B w (y j) (f k j)) (hl : (k + 1) * 96 ≤ 140737488355328) (hB : B ≤ w.heap.size)
    (h : ∀ v' w', Below B w w' → Keeps 24 w w' → Keeps 75 w w' → TA B w' v' (k + 1) (upd Y k y) f → wpList Try.prog ops Q rest (a.put o.dst v') w') : wpList Try.prog ops Q (o :: rest) a w := by
  refine wpList_plain hgd fun K hK => ?_
  obtain ⟨v', w', hr, h1, h2, h3, h4⟩ := run_push w o.type B k v Y f y g c hT hc hy hl hB
  unfold Oper.wp execOp
  simp only [ho, resolve, invoke, builtin, Sem.run_bind, Sem.run_pure, Result.andThen_ok, List.map_toArray, List.map_cons, List.map_nil, hs, hx, hr]
  exact hK _ _ (h v' w' h1 h2 h3 h4)

/-- what was done had what it waits for done -/
def Closed (ops : Array Oper) (l : Nat → Bool) : Prop := ∀ i o, ops[i]? = some o → l i = true → ∀ e ∈ o.after, Region.binds .any e = true → l e.on = true

theorem wp_region_inv2 {P : Program} {ops : Array Oper} {Q : Exit → Act → World → Prop} {id : Nat} {a : Act} {w : World} (hm : P.follows .mixedOrders = true) (hB : lowB ops = true) (I : (Nat → Bool) → Act → World → Prop)
    (h0 : I (fun _ => false) a { w with drawn := w.drawn + 1 })
    (step : ∀ l i o a w, ops[i]? = some o → l i = false → Closed ops l → (∀ e ∈ o.after, Region.binds .any e = true → l e.on = true) → I l a w → wpOp P ops Q i (fun a' w' => I (fun j => l j || j == i) a' w') a w)
    (fin : ∀ l a w, (∀ i, i < ops.size → l i = true) → I l a w → Q .normal a w) : (Code.region id ops true).wp P Q a w := by
  refine wp_region_inv hm hB (fun l a w => Closed ops l ∧ I l a w) ⟨(fun i o _ h => by cases h), h0⟩ ?_ ?_
  · rintro l i o a w ho hl hdep ⟨hc, hI⟩
    refine wpOp_mono ?_ (step l i o a w ho hl hc hdep hI)
    intro a' w' hI'
    refine ⟨fun j o' ho' hj e he hb => ?_, hI'⟩
    simp only [Bool.or_eq_true, beq_iff_eq] at hj ⊢
    rcases hj with hj | hj
    · exact .inl (hc j o' ho' hj e he hb)
    · subst hj
      obtain rfl := Option.some.inj (ho.symm.trans ho')
      exact .inl (hdep e he hb)
  · rintro l a w hall ⟨_, hI⟩
    exact fin l a w hall hI

theorem dep_of' {o : Oper} {l : Nat → Bool} {deps : List Nat} (hp : deps.all (fun d => o.after.any fun e => e.on == d && Region.binds .any e) = true) (hd : ∀ e ∈ o.after, Region.binds .any e = true → l e.on = true) : ∀ d ∈ deps, l d = true := by
  intro d hm
  have := List.all_eq_true.1 hp d hm
  obtain ⟨i, hi, h2⟩ := Array.any_eq_true.1 this
  simp only [Bool.and_eq_true, beq_iff_eq] at h2
  rw [← h2.1]
  exact hd o.after[i] (Array.getElem_mem hi) h2.2

theorem Closed.dep {ops : Array Oper} {l : Nat → Bool} (h : Closed ops l) {i : Nat} {d : Option Tmp} {op : Op} {deps : List Nat} (ho : OpAt ops i d op deps) (hi : l i = true) : ∀ q ∈ deps, l q = true := by
  obtain ⟨o, e1, _, _, _, e5⟩ := ho
  exact dep_of' e5 fun e he hb => h i o e1 hi e he hb

theorem run_build52 (w : World) (s0 s1 s2 s3 : SL) : (Instr.build 47 #[(0, s0.v), (1, s1.v), (2, s2.v), (3, s3.v)]).run Try.prog w = .ok (.agg #[s0.v, s1.v, s2.v, s3.v]) w := by
  unfold SL.v
  go_simp
theorem run_build22 (w : World) (s0 s1 s2 s3 : SL) : (Instr.buildSlice 22 1 #[(0, .agg #[s0.v, s1.v, s2.v, s3.v])]).run Try.prog w = .ok (.slice (some ⟨w.heap.size, 0, none⟩) 1 1) (w.alloc (.cells #[s0.v, s1.v, s2.v, s3.v] 47)) := by
  unfold SL.v
  go_simp

end Go.Proofs.Ytbmlafgolmmekab
