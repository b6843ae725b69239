/- Adapters: what they hold, and how they lie in memory. -/
import Derived.Test.YtbmlafgolmmekabRows
import Derived.Test.YtbmlafgolmmekabView
import Derived.Test.YtbmlafgolmmekabOwn
import Derived.Test.YtbmlafgolmmekabCfg
import Derived.Test.YtbmlafgolmmekabCfgs
import Derived.Test.YtbmlafgolmmekabHeld
import Derived.Test.YtbmlafgolmmekabReader
import Derived.Test.YtbmlafgolmmekabSls
import Derived.Test.YtbmlafgolmmekabSteps
import Derived.Test.YtbmlafgolmmekabInv
import Derived.Test.YtbmlafgolmmekabTyped
import Derived.WalkKit
import Derived.ProofKit
import Derived.OpenShut
import Derived.Below
import Derived.WalkLawsBesides
namespace Go.Proofs.Ytbmlafgolmmekab
open Go.ChangeShapes Go.WideShapes Go.ChangeAt Go.RowKit
set_option linter.unusedVariables false

/-- what an adapter's layers hold -/
structure AdV where
  ln : Nat
  f : Nat → Nat → List Int

/-- an adapter as it lies in memory: the slice of its layers, and what it leads to -/
structure AdAt (w : World) (L : SL) (Y : Nat → Nat → SL) (m : AdV) : Prop where
  len : L.n = m.ln
  some_ : 0 < m.ln → ∃ x, L.a = some x
  nil : L.a = none → L.c = 0
  cap : L.n ≤ L.c
  cell : ∀ x, L.a = some x → ∀ i, i < m.ln → ∀ j, j < 4 → w.cell? ((x.add (i * 4)).add j) = some (Y i j).v
  lay : ∀ i, i < m.ln → ∀ j, j < 4 → IsS w (Y i j) (m.f i j)

theorem AdAt.below {w w' : World} {L : SL} {Y : Nat → Nat → SL} {m : AdV} (h : AdAt w L Y m) (hb : Below w.heap.size w w') : AdAt w' L Y m :=
  ⟨h.len, h.some_, h.nil, h.cap, fun x hx i hi j hj => (hb.cell (World.block_lt_of_cell? w _ (h.cell x hx i hi j hj))).trans (h.cell x hx i hi j hj), fun i hi j hj => (h.lay i hi j hj).below hb⟩
theorem AdAt.drewN {w : World} {L : SL} {Y : Nat → Nat → SL} {m : AdV} (h : AdAt w L Y m) (k : Nat) : AdAt (w.drewN k) L Y m :=
  ⟨h.len, h.some_, h.nil, h.cap, h.cell, fun i hi j hj => (h.lay i hi j hj).drewN k⟩

/-- two adapters that hold the same -/
structure AgreeA (m m' : AdV) : Prop where
  ln : m.ln = m'.ln
  f : ∀ i, i < m.ln → ∀ j, j < 4 → m.f i j = m'.f i j
theorem AdAt.congr {w : World} {L : SL} {Y : Nat → Nat → SL} {m m' : AdV} (h : AdAt w L Y m) (e : AgreeA m m') : AdAt w L Y m' :=
  ⟨h.len.trans e.ln, (fun h0 => h.some_ (by rw [e.ln]; exact h0)), h.nil, h.cap, (fun x hx i hi => h.cell x hx i (by rw [e.ln]; exact hi)), fun i hi j hj => e.f i (by rw [e.ln]; exact hi) j hj ▸ h.lay i (by rw [e.ln]; exact hi) j hj⟩

/-- an adapter that lies in memory from block base on -/
def NewA (base : Nat) (w : World) (L : SL) (Y : Nat → Nat → SL) (m : AdV) : Prop := ∀ w', From base w w' → AdAt w' L Y m
theorem NewA.at_ {base : Nat} {w : World} {L : SL} {Y : Nat → Nat → SL} {m : AdV} (h : NewA base w L Y m) : AdAt w L Y m := h w fun _ _ hp _ => hp
theorem NewA.from_ {base : Nat} {w w' : World} {L : SL} {Y : Nat → Nat → SL} {m : AdV} (h : NewA base w L Y m) (hf : From base w w') : NewA base w' L Y m := fun w'' hc => h w'' (hf.trans hc)
theorem NewA.below {base : Nat} {w w' : World} {L : SL} {Y : Nat → Nat → SL} {m : AdV} (h : NewA base w L Y m) (hb : Below w.heap.size w w') : NewA base w' L Y m := h.from_ (From.of_below hb)
theorem NewA.only {base q : Nat} {w w' : World} {L : SL} {Y : Nat → Nat → SL} {m : AdV} (h : NewA base w L Y m) (o : Only q w w') (hq : q < base) : NewA base w' L Y m := h.from_ (From.of_only o hq)
theorem NewA.le {base base' : Nat} {w : World} {L : SL} {Y : Nat → Nat → SL} {m : AdV} (h : NewA base w L Y m) (hb : base' ≤ base) : NewA base' w L Y m :=
  fun w'' hc => h w'' fun p v hp hle => hc p v hp (Nat.le_trans hb hle)
theorem NewA.congr {base : Nat} {w : World} {L : SL} {Y : Nat → Nat → SL} {m m' : AdV} (h : NewA base w L Y m) (e : AgreeA m m') : NewA base w L Y m' := fun w' hf => (h w' hf).congr e

/-- the adapter with nothing in it -/
def noA : AdV := ⟨0, fun _ _ => []⟩
theorem NewA.none_ (base : Nat) (w : World) (Y : Nat → Nat → SL) : NewA base w ⟨none, 0, 0⟩ Y noA := fun w' _ => ⟨rfl, (fun h => by cases h), fun _ => rfl, Nat.le_refl _, (fun x hx => by cases hx), (fun i hi => by cases hi)⟩

/-- the cells of layers -/
def cells4 (Y : Nat → Nat → SL) (n : Nat) : List Value := (List.range n).flatMap fun i => (List.range 4).map fun r => (Y i r).v
theorem cells4_succ (Y : Nat → Nat → SL) (n : Nat) : cells4 Y (n + 1) = cells4 Y n ++ (List.range 4).map fun r => (Y n r).v := by simp [cells4, List.range_succ]
theorem cells4_len (Y : Nat → Nat → SL) (n : Nat) : (cells4 Y n).length = n * 4 := by
  induction n with
  | zero => rfl
  | succ n ih => rw [cells4_succ, List.length_append, ih]; simp; omega
theorem cells4_at (Y : Nat → Nat → SL) (n i r : Nat) (hi : i < n) (hr : r < 4) : (cells4 Y n)[i * 4 + r]? = some (Y i r).v := by
  induction n with
  | zero => omega
  | succ n ih =>
    rw [cells4_succ]
    have hl := cells4_len Y n
    by_cases e : i = n
    · subst e
      rw [List.getElem?_append_right (by omega), hl, show i * 4 + r - i * 4 = r by omega]
      simp [hr]
    · rw [List.getElem?_append_left (by omega)]
      exact ih (by omega)
theorem cells4_congr {Y Y' : Nat → Nat → SL} {n : Nat} (h : ∀ i, i < n → ∀ r, r < 4 → Y i r = Y' i r) : cells4 Y n = cells4 Y' n := by
  induction n with
  | zero => rfl
  | succ n ih =>
    rw [cells4_succ, cells4_succ, ih fun i hi => h i (by omega)]
    congr 1
    exact List.map_congr_left fun r hr => by rw [h n (by omega) r (List.mem_range.1 hr)]

/-- the layers so far, in rows of the call's own -/
structure TA (B : Nat) (w : World) (v : Value) (n : Nat) (Y : Nat → Nat → SL) (f : Nat → Nat → List Int) : Prop where
  own : w.ownsRow B 47 4 v n (cells4 Y n)
  lay : ∀ i, i < n → ∀ j, j < 4 → TS B w (Y i j) (f i j)
theorem TA.nil (B : Nat) (w : World) (Y : Nat → Nat → SL) (f : Nat → Nat → List Int) : TA B w (.slice none 0 0) 0 Y f := ⟨World.ownsRow_nil _ _ _ _, fun j hj => by omega⟩
theorem TA.below {B : Nat} {w w' : World} {v : Value} {n : Nat} {Y : Nat → Nat → SL} {f : Nat → Nat → List Int} (h : TA B w v n Y f) (hb : Below w.heap.size w w') : TA B w' v n Y f := ⟨(Keeps.of_below hb).own h.own, fun i hi j hj => (h.lay i hi j hj).step (Keeps.of_below hb)⟩
theorem TA.new {B : Nat} {w : World} {v : Value} {Y : Nat → Nat → SL} {m : AdV} (h : TA B w v m.ln Y m.f) : ∃ L : SL, v = L.v ∧ NewA B w L Y m := by
  rcases h.own.2 with ⟨e, e'⟩ | ⟨g, cap, cur, e, hg, hh, hcap, hm, _⟩
  · exact ⟨⟨none, 0, 0⟩, e, fun w' hf => ⟨e'.symm, (fun h => by omega), fun _ => rfl, Nat.le_refl _, (fun x hx => by cases hx), fun i hi j hj => (h.lay i hi j hj).new w' hf⟩⟩
  · refine ⟨⟨some ⟨g, 0, none⟩, m.ln, cap⟩, e, fun w' hf => ⟨rfl, fun _ => ⟨_, rfl⟩, (fun h => by cases h), hcap, fun x hx i hi j hj => ?_, fun i hi j hj => (h.lay i hi j hj).new w' hf⟩⟩
    obtain rfl := Option.some.inj hx
    have ho := h.own
    rw [e] at ho
    have c := ho.cells (g := g) rfl (i * 4 + j) (Y i j).v (cells4_at Y m.ln i j hi hj)
    rw [Addr.add_add]
    refine hf _ _ c ?_
    have e2 : ((⟨g, 0, none⟩ : Addr).add (i * 4 + j)).block = g := by unfold Addr.add; split <;> rfl
    omega

theorem info47 : (Try.prog.info? 47).map (fun i => (i.zero, i.size, i.bytes)) = some (some (.agg #[nilS, nilS, nilS, nilS]), 4, 96) := by kernel_rfl
theorem i47' : ∃ i, Try.prog.info? 47 = some i ∧ i.zero = some (.agg #[nilS, nilS, nilS, nilS]) ∧ i.size = 4 ∧ i.bytes = 96 := by
  have := info47
  cases h : Try.prog.info? 47 with
  | none => rw [h] at this; cases this
  | some i => rw [h] at this; simp at this; exact ⟨i, rfl, this.1, this.2.1, this.2.2⟩

theorem at_four {w : World} {x : Addr} {i : Nat} {y : Nat → SL} (h : ∀ j, j < 4 → w.cell? ((x.add (i * 4)).add j) = some (y j).v) :
    ∃ P, x.add (i * 4) = P ∧ w.cell? P = some (.slice (y 0).a (y 0).n (y 0).c) ∧ w.cell? ⟨P.block, P.off + 1, none⟩ = some (.slice (y 1).a (y 1).n (y 1).c) ∧ w.cell? ⟨P.block, P.off + 2, none⟩ = some (.slice (y 2).a (y 2).n (y 2).c) ∧
      w.cell? ⟨P.block, P.off + 3, none⟩ = some (.slice (y 3).a (y 3).n (y 3).c) :=
  ⟨_, rfl, h 0 (by omega), h 1 (by omega), h 2 (by omega), h 3 (by omega)⟩

/-- a rank, a shift and a configuration that are right -/
def okA (R S : Int) (d h l v u x t n : Int) : Bool := okB d h l v u x t n && (decide (1 ≤ R) && (decide (R ≤ 4) && (decide (0 ≤ S) && decide (S ≤ 8))))
/-- all lists have Rank times Dim weights -/
def lensA (R d : Int) (m : AdV) : Bool := (List.range m.ln).all fun i => (List.range 4).all fun j => decide (((m.f i j).length : Int) = R * d)
theorem lensA_iff {R d : Int} {m : AdV} : lensA R d m = true ↔ ∀ i, i < m.ln → ∀ j, j < 4 → ((m.f i j).length : Int) = R * d := by
  unfold lensA
  simp only [List.all_eq_true, List.mem_range, decide_eq_true_eq]
/-- what Check tells -/
def checkA (R S d h l v u x t n : Int) (m : AdV) : Int := if okA R S d h l v u x t n = true then (if (m.ln : Int) = l ∧ lensA R d m = true then 0 else 21) else 20

end Go.Proofs.Ytbmlafgolmmekab
