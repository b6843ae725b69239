/- Rows of their own types: a store into one does not touch another. -/
import Derived.Test.YtbmlafgolmmekabRows
import Derived.Test.YtbmlafgolmmekabView
import Derived.Test.YtbmlafgolmmekabOwn
import Derived.Test.YtbmlafgolmmekabCfg
import Derived.Test.YtbmlafgolmmekabCfgs
import Derived.Test.YtbmlafgolmmekabHeld
import Derived.Test.YtbmlafgolmmekabReader
import Derived.Test.YtbmlafgolmmekabSls
import Derived.Test.YtbmlafgolmmekabSteps
import Derived.Test.YtbmlafgolmmekabInv
import Derived.WalkKit
import Derived.ProofKit
import Derived.OpenShut
import Derived.Below
import Derived.WalkLawsBesides
namespace Go.Proofs.Ytbmlafgolmmekab
open Go.ChangeShapes Go.WideShapes Go.ChangeAt Go.RowKit
set_option linter.unusedVariables false


/-- what holds of the cells from block base on -/
def From (base : Nat) (w w' : World) : Prop := ∀ p v, w.cell? p = some v → base ≤ p.block → w'.cell? p = some v
theorem From.of_below {base : Nat} {w w' : World} (hb : Below w.heap.size w w') : From base w w' := fun p v hp _ => (hb.cell (World.block_lt_of_cell? w _ hp)).trans hp
theorem From.of_only {base q : Nat} {w w' : World} (o : Only q w w') (hq : q < base) : From base w w' := fun p v hp hle => o.cell hp (fun e => absurd (show p.block = q by simpa using e) (by omega))
theorem From.trans {base : Nat} {w w' w'' : World} (h : From base w w') (k : From base w' w'') : From base w w'' := fun p v hp hle => k p v (h p v hp hle) hle
theorem NewS.from_ {base : Nat} {w w' : World} {s : SL} {zs : List Int} (h : NewS base w s zs) (hf : From base w w') : NewS base w' s zs := fun w'' hc => h w'' (hf.trans hc)



/-- every block of rows of type t is as it was -/
def Keeps (t : TypeId) (w w' : World) : Prop := ∀ (b : Nat) (cur : Array Value) (fz : Nat × Nat), w.heap[b]? = some (Obj.cells cur t fz) → w'.heap[b]? = some (Obj.cells cur t fz)
theorem Keeps.refl (t : TypeId) (w : World) : Keeps t w w := fun _ _ _ h => h
theorem Keeps.trans {t : TypeId} {w w' w'' : World} (h : Keeps t w w') (k : Keeps t w' w'') : Keeps t w w'' := fun b cur fz e => k b cur fz (h b cur fz e)
theorem Keeps.of_below {t : TypeId} {w w' : World} (hb : Below w.heap.size w w') : Keeps t w w' := fun b cur fz e => (hb.block b (Array.getElem?_eq_some_iff.1 e).1).trans e
theorem Keeps.of_grown {t t' : TypeId} {w w' : World} {g : Nat} {c : Array Value} {f : Nat × Nat} (h : w.grownBy w' (some g)) (hg : w.heap[g]? = some (.cells c t' f)) (ht : t ≠ t') : Keeps t w w' := fun b cur fz e => by
  refine (h.block b (Array.getElem?_eq_some_iff.1 e).1 fun k => ?_).trans e
  obtain rfl := Option.some.inj k
  rw [hg] at e
  simp at e
  exact ht e.2.1.symm
theorem Keeps.of_only {t t' : TypeId} {w w' : World} {g : Nat} {c : Array Value} (h : Only g w w') (hg : Blk t' w g c) (ht : t ≠ t') : Keeps t w w' := Keeps.of_grown h hg ht
theorem Keeps.of_own {t t' : TypeId} {w w' : World} {B n sz : Nat} {v : Value} {xs : List Value} (h : w.grownBy w' v.ownBlock) (ho : w.ownsRow B t' sz v n xs) (ht : t ≠ t') : Keeps t w w' := by
  rcases ho.2 with ⟨e, _⟩ | ⟨g, cap, cur, e, _, hg, _⟩
  · rw [e] at h
    exact fun b cur fz e => (h.block b (Array.getElem?_eq_some_iff.1 e).1 (by simp [Value.ownBlock])).trans e
  · rw [e] at h
    exact Keeps.of_grown h hg ht
theorem Keeps.blk {t : TypeId} {w w' : World} {b : Nat} {cs : Array Value} (h : Keeps t w w') (q : Blk t w b cs) : Blk t w' b cs := h b cs (0, 0) q
theorem Keeps.own {t : TypeId} {w w' : World} {B n sz : Nat} {v : Value} {xs : List Value} (h : Keeps t w w') (ho : w.ownsRow B t sz v n xs) : w'.ownsRow B t sz v n xs := by
  refine ⟨ho.1, ?_⟩
  rcases ho.2 with h2 | ⟨g, cap, cur, hv, hg, hh, r⟩
  · exact .inl h2
  · exact .inr ⟨g, cap, cur, hv, hg, h g cur (0, 0) hh, r⟩

/-- a list of weights in a row of the call's own -/
structure TS (B : Nat) (w : World) (s : SL) (zs : List Int) : Prop where
  is : IsS w s zs
  blk : ∀ x, s.a = some x → B ≤ x.block ∧ ∃ cur fz, w.heap[x.block]? = some (.cells cur 41 fz)
theorem TS.step {B : Nat} {w w' : World} {s : SL} {zs : List Int} (h : TS B w s zs) (k : Keeps 41 w w') : TS B w' s zs := by
  refine ⟨⟨⟨h.is.reads.len, h.is.reads.max, h.is.reads.wf, h.is.reads.some_, fun x hx i hi => ?_⟩, h.is.nil, h.is.cap⟩, fun x hx => ?_⟩
  · obtain ⟨_, cur, fz, e⟩ := h.blk x hx
    have c := h.is.reads.cell x hx i hi
    have eb : (x.add i).block = x.block := by unfold Addr.add; split <;> rfl
    have := World.cell?_of_block (w := w) (w' := w') (a := x.add i) (by rw [eb, e]; exact k _ _ _ e)
    rw [this]
    exact c
  · obtain ⟨h1, cur, fz, e⟩ := h.blk x hx
    exact ⟨h1, cur, fz, k _ _ _ e⟩
theorem TS.below {B : Nat} {w w' : World} {s : SL} {zs : List Int} (h : TS B w s zs) (hb : Below w.heap.size w w') : TS B w' s zs := h.step (Keeps.of_below hb)
theorem TS.new {B : Nat} {w : World} {s : SL} {zs : List Int} (h : TS B w s zs) : NewS B w s zs := fun w' hf =>
  ⟨⟨h.is.reads.len, h.is.reads.max, h.is.reads.wf, h.is.reads.some_, fun x hx i hi => hf _ _ (h.is.reads.cell x hx i hi) (by
    have := (h.blk x hx).1
    have eb : (x.add i).block = x.block := by unfold Addr.add; split <;> rfl
    omega)⟩, h.is.nil, h.is.cap⟩

theorem SL.v_inj {s t : SL} (h : s.v = t.v) : s = t := by
  obtain ⟨a, n, c⟩ := s
  obtain ⟨a', n', c'⟩ := t
  simp only [SL.v, Value.slice.injEq] at h
  obtain ⟨rfl, rfl, rfl⟩ := h
  rfl
theorem TS.le {B B' : Nat} {w : World} {s : SL} {zs : List Int} (h : TS B w s zs) (hb : B' ≤ B) : TS B' w s zs := ⟨h.is, fun x hx => ⟨Nat.le_trans hb (h.blk x hx).1, (h.blk x hx).2⟩⟩
/-- a function, changed at one place -/
def upd {α : Type} (F : Nat → α) (i : Nat) (x : α) : Nat → α := fun j => if j = i then x else F j
theorem upd_same {α : Type} (F : Nat → α) (i : Nat) (x : α) : upd F i x i = x := if_pos rfl
theorem upd_other {α : Type} (F : Nat → α) (i : Nat) (x : α) {j : Nat} (h : j ≠ i) : upd F i x j = F j := if_neg h

/-- append([]int8{}, l...), in any world: the copy is a row of the call's own -/
theorem run_copy_ts (w : World) (g : Nat) (B : Nat) (ty : TypeId) (s : SL) (zs : List Int) (hs : IsS w s zs) (hl : zs.length ≤ 140737488355328) (hg : B ≤ g) (hq : Blk 41 w g #[]) (hB : B ≤ w.heap.size) : ∃ s' w', (Builtin.append_ #[42, 42] ty #[.slice (some ⟨g, 0, none⟩) 0 0, .slice s.a s.n s.c]).run Try.prog w = .ok (SL.v s') w' ∧ Below w.heap.size w w' ∧ TS B w' s' zs := by
  have own0 : w.ownsRow B 41 1 (.slice (some ⟨g, 0, none⟩) 0 0) 0 [] := ⟨rfl, .inr ⟨g, 0, #[], rfl, hg, hq, Nat.le_refl _, by unfold maxLen; omega, rfl, rfl⟩⟩
  obtain ⟨s', w', hr, hn, hb, ho⟩ := run_copy_own w g B ty s zs hs hl own0 hB
  refine ⟨s', w', hr, hb, ?_⟩
  have hlen := hs.reads.len
  obtain ⟨a, c, e, hre⟩ := own_reads (k := .i8) ho (by omega) hs.reads.wf_mem (fun j hj => copy_at .i8 zs j (by omega))
  have e' : s' = ⟨a, s'.n, c⟩ := SL.v_inj e
  rcases ho.2 with ⟨h1, h2⟩ | ⟨g', cap, cur, h1, h2, h3, h4, _⟩
  · have : s' = ⟨none, 0, 0⟩ := SL.v_inj h1
    subst this
    have ha : a = none := by simp at e'; exact e'.1.symm
    subst ha
    exact ⟨⟨hre, fun _ => rfl, Nat.le_refl _⟩, fun x hx => by cases hx⟩
  · have e2 : s' = ⟨some ⟨g', 0, none⟩, s'.n, cap⟩ := SL.v_inj h1
    have ha : a = some ⟨g', 0, none⟩ := by rw [e2] at e'; simp at e'; exact e'.1.symm
    have hc : c = cap := by rw [e2] at e'; simp at e'; exact e'.2.symm
    subst ha
    subst hc
    rw [e2]
    exact ⟨⟨by simpa using hre, (fun h => by cases h), h4⟩, fun x hx => by obtain rfl := Option.some.inj hx; exact ⟨h2, cur, (0, 0), h3⟩⟩

end Go.Proofs.Ytbmlafgolmmekab
