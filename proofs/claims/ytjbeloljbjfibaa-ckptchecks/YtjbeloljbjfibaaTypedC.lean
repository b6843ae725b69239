/- Texts put together: Typed, Copies, Push. -/
import Derived.Test.YtjbeloljbjfibaaRows
import Derived.Test.YtjbeloljbjfibaaLayer8
import Derived.Test.YtjbeloljbjfibaaConf
import Derived.Test.YtjbeloljbjfibaaBlank
import Derived.Test.YtjbeloljbjfibaaCfgRef
import Derived.Test.YtjbeloljbjfibaaSize
import Derived.Test.YtjbeloljbjfibaaSizes
import Derived.Test.YtjbeloljbjfibaaSteps
import Derived.Test.YtjbeloljbjfibaaClo54
import Derived.Test.YtjbeloljbjfibaaFill
import Derived.Test.YtjbeloljbjfibaaMods
import Derived.Test.YtjbeloljbjfibaaFills
import Derived.Test.YtjbeloljbjfibaaShape
import Derived.Test.YtjbeloljbjfibaaShapes
import Derived.Test.YtjbeloljbjfibaaCheck
import Derived.Test.YtjbeloljbjfibaaChecks
import Derived.Test.YtjbeloljbjfibaaDims
import Derived.Test.YtjbeloljbjfibaaFlat
import Derived.Test.YtjbeloljbjfibaaNumbers
import Derived.Test.YtjbeloljbjfibaaPrefix
import Derived.Test.YtjbeloljbjfibaaBody
import Derived.Test.YtjbeloljbjfibaaDecode
import Derived.WalkKit
import Derived.ProofKit
import Derived.OpenShut
import Derived.Below
import Derived.WalkLawsBesides
import Derived.Deep.QuietTactic
import Derived.BigQuiet
import Derived.Deep.RegionWith
import Derived.Deep.RegionHeld3
import Derived.Deep.OwnRows
import Derived.Deep.Slices
import Derived.Test.YtjbeloljbjfibaaTrips
import Derived.Test.YtjbeloljbjfibaaInv
import Derived.Test.YtjbeloljbjfibaaBuild
namespace Go.Proofs.Ytjbeloljbjfibaa

/- Rows of their own types: a store into one does not touch another. -/
section
open Go.ChangeShapes Go.WideShapes Go.ChangeAt Go.RowKit
set_option linter.unusedVariables false

/-- every block of rows of type t is as it was -/
def Keeps (t : TypeId) (w w' : World) : Prop := ∀ (b : Nat) (cur : Array Value) (fz : Nat × Nat), w.heap[b]? = some (Obj.cells cur t fz) → w'.heap[b]? = some (Obj.cells cur t fz)
theorem Keeps.refl (t : TypeId) (w : World) : Keeps t w w := fun _ _ _ h => h
theorem Keeps.trans {t : TypeId} {w w' w'' : World} (h : Keeps t w w') (k : Keeps t w' w'') : Keeps t w w'' := fun b cur fz e => k b cur fz (h b cur fz e)
theorem Keeps.of_below {t : TypeId} {w w' : World} (hb : Below w.heap.size w w') : Keeps t w w' := fun b cur fz e => (hb.block b (Array.getElem?_eq_some_iff.1 e).1).trans e
theorem Keeps.of_grown {t t' : TypeId} {w w' : World} {g : Nat} {c : Array Value} {f : Nat × Nat} (h : w.grownBy w' (some g)) (hg : w.heap[g]? = some (.cells c t' f)) (ht : t ≠ t') : Keeps t w w' := fun b cur fz e => by
  refine (h.block b (Array.getElem?_eq_some_iff.1 e).1 fun k => ?_).trans e
  obtain rfl := Option.some.inj k
  rw [hg] at e
  simp at e
  exact ht e.2.1.symm
theorem Keeps.of_only {t t' : TypeId} {w w' : World} {g : Nat} {c : Array Value} (h : Only g w w') (hg : Blk t' w g c) (ht : t ≠ t') : Keeps t w w' := Keeps.of_grown h hg ht
theorem Keeps.of_own {t t' : TypeId} {w w' : World} {B n sz : Nat} {v : Value} {xs : List Value} (h : w.grownBy w' v.ownBlock) (ho : w.ownsRow B t' sz v n xs) (ht : t ≠ t') : Keeps t w w' := by
  rcases ho.2 with ⟨e, _⟩ | ⟨g, cap, cur, e, _, hg, _⟩
  · rw [e] at h
    exact fun b cur fz e => (h.block b (Array.getElem?_eq_some_iff.1 e).1 (by simp [Value.ownBlock])).trans e
  · rw [e] at h
    exact Keeps.of_grown h hg ht
theorem Keeps.blk {t : TypeId} {w w' : World} {b : Nat} {cs : Array Value} (h : Keeps t w w') (q : Blk t w b cs) : Blk t w' b cs := h b cs (0, 0) q
theorem Keeps.own {t : TypeId} {w w' : World} {B n sz : Nat} {v : Value} {xs : List Value} (h : Keeps t w w') (ho : w.ownsRow B t sz v n xs) : w'.ownsRow B t sz v n xs := by
  refine ⟨ho.1, ?_⟩
  rcases ho.2 with h2 | ⟨g, cap, cur, hv, hg, hh, r⟩
  · exact .inl h2
  · exact .inr ⟨g, cap, cur, hv, hg, h g cur (0, 0) hh, r⟩

/-- a list of weights in a row of the call's own -/
structure TS (B : Nat) (w : World) (s : SL) (zs : List Int) : Prop where
  is : IsS w s zs
  blk : ∀ x, s.a = some x → B ≤ x.block ∧ ∃ cur fz, w.heap[x.block]? = some (.cells cur 46 fz)
theorem TS.step {B : Nat} {w w' : World} {s : SL} {zs : List Int} (h : TS B w s zs) (k : Keeps 46 w w') : TS B w' s zs := by
  refine ⟨⟨⟨h.is.reads.len, h.is.reads.max, h.is.reads.wf, h.is.reads.some_, fun x hx i hi => ?_⟩, h.is.nil, h.is.cap⟩, fun x hx => ?_⟩
  · obtain ⟨_, cur, fz, e⟩ := h.blk x hx
    have c := h.is.reads.cell x hx i hi
    have eb : (x.add i).block = x.block := by unfold Addr.add; split <;> rfl
    have := World.cell?_of_block (w := w) (w' := w') (a := x.add i) (by rw [eb, e]; exact k _ _ _ e)
    rw [this]
    exact c
  · obtain ⟨h1, cur, fz, e⟩ := h.blk x hx
    exact ⟨h1, cur, fz, k _ _ _ e⟩
theorem TS.below {B : Nat} {w w' : World} {s : SL} {zs : List Int} (h : TS B w s zs) (hb : Below w.heap.size w w') : TS B w' s zs := h.step (Keeps.of_below hb)
theorem TS.new {B : Nat} {w : World} {s : SL} {zs : List Int} (h : TS B w s zs) : NewS B w s zs := fun w' hf =>
  ⟨⟨h.is.reads.len, h.is.reads.max, h.is.reads.wf, h.is.reads.some_, fun x hx i hi => hf _ _ (h.is.reads.cell x hx i hi) (by
    have := (h.blk x hx).1
    have eb : (x.add i).block = x.block := by unfold Addr.add; split <;> rfl
    omega)⟩, h.is.nil, h.is.cap⟩

/-- a list of such lists -/
structure TG (B : Nat) (w : World) (v : Value) (k : Nat) (R : Nat → SL) (Z : Nat → List Int) : Prop where
  own : w.ownsRow B 26 1 v k (cellsG R k)
  row : ∀ j, j < k → TS B w (R j) (Z j)
theorem TG.step {B : Nat} {w w' : World} {v : Value} {k : Nat} {R : Nat → SL} {Z : Nat → List Int} (h : TG B w v k R Z) (k1 : Keeps 46 w w') (k2 : Keeps 26 w w') : TG B w' v k R Z := ⟨k2.own h.own, fun j hj => (h.row j hj).step k1⟩
theorem TG.new {B : Nat} {w : World} {v : Value} {k : Nat} {R : Nat → SL} {Z : Nat → List Int} (h : TG B w v k R Z) : ∃ s : SL, v = s.v ∧ NewG B w s k R Z := newG_of h.own fun j hj => (h.row j hj).new
theorem TG.nil (B : Nat) (w : World) (R : Nat → SL) (Z : Nat → List Int) : TG B w (.slice none 0 0) 0 R Z := ⟨World.ownsRow_nil _ _ _ _, fun j hj => by omega⟩

/-- one layer's lists -/
structure TY (B : Nat) (w : World) (Y : Nat → SL) (U D : Nat → SL) (f : Nat → List Int) (un dn : Nat) (u d : Nat → List Int) : Prop where
  f : ∀ j, j < 7 → TS B w (Y j) (f j)
  u : TG B w (Y 7).v un U u
  d : TG B w (Y 8).v dn D d
theorem TY.step {B : Nat} {w w' : World} {Y U D : Nat → SL} {f : Nat → List Int} {un dn : Nat} {u d : Nat → List Int} (h : TY B w Y U D f un dn u d) (k1 : Keeps 46 w w') (k2 : Keeps 26 w w') : TY B w' Y U D f un dn u d := ⟨fun j hj => (h.f j hj).step k1, h.u.step k1 k2, h.d.step k1 k2⟩
theorem SL.v_inj {s t : SL} (h : s.v = t.v) : s = t := by
  obtain ⟨a, n, c⟩ := s
  obtain ⟨a', n', c'⟩ := t
  simp only [SL.v, Value.slice.injEq] at h
  obtain ⟨rfl, rfl, rfl⟩ := h
  rfl
theorem TY.new {B : Nat} {w : World} {Y U D : Nat → SL} {f : Nat → List Int} {un dn : Nat} {u d : Nat → List Int} (h : TY B w Y U D f un dn u d) : NewY B w Y U D f un dn u d := by
  obtain ⟨s, e, hs⟩ := h.u.new
  obtain ⟨s', e', hs'⟩ := h.d.new
  obtain rfl := SL.v_inj e
  obtain rfl := SL.v_inj e'
  exact newY_of (fun j hj => (h.f j hj).new) hs hs'

/-- the layers so far -/
structure TL (B : Nat) (w : World) (v : Value) (n : Nat) (Y U D : Nat → Nat → SL) (m : ModV) : Prop where
  own : w.ownsRow B 59 9 v n (cells9 Y n)
  lay : ∀ i, i < n → TY B w (Y i) (U i) (D i) (m.f i) (m.un i) (m.dn i) (m.u i) (m.d i)
theorem TL.nil (B : Nat) (w : World) (Y U D : Nat → Nat → SL) (m : ModV) : TL B w (.slice none 0 0) 0 Y U D m := ⟨World.ownsRow_nil _ _ _ _, fun j hj => by omega⟩
theorem TL.new {B : Nat} {w : World} {v : Value} {E N O : SL} {Y U D : Nat → Nat → SL} {m : ModV} (h : TL B w v m.ln Y U D m) (he : TS B w E m.e) (hn : TS B w N m.nm) (ho : TS B w O m.o) : ∃ L : SL, v = L.v ∧ NewM B w E L N O Y U D m :=
  newM_of h.own (fun i hi => (h.lay i hi).new) he.new hn.new ho.new

/-- a function, changed at one place -/
def upd {α : Type} (F : Nat → α) (i : Nat) (x : α) : Nat → α := fun j => if j = i then x else F j
theorem upd_same {α : Type} (F : Nat → α) (i : Nat) (x : α) : upd F i x i = x := if_pos rfl
theorem upd_other {α : Type} (F : Nat → α) (i : Nat) (x : α) {j : Nat} (h : j ≠ i) : upd F i x j = F j := if_neg h

/-- append([]int8{}, l...), in any world: the copy is a row of the call's own -/
theorem run_copy_ts (w : World) (g : Nat) (B : Nat) (ty : TypeId) (s : SL) (zs : List Int) (hs : IsS w s zs) (hl : zs.length ≤ 140737488355328) (hg : B ≤ g) (hq : Blk 46 w g #[]) (hB : B ≤ w.heap.size) : ∃ s' w', (Builtin.append_ #[26, 26] ty #[.slice (some ⟨g, 0, none⟩) 0 0, .slice s.a s.n s.c]).run Try.prog w = .ok (SL.v s') w' ∧ Below w.heap.size w w' ∧ TS B w' s' zs := by
  have own0 : w.ownsRow B 46 1 (.slice (some ⟨g, 0, none⟩) 0 0) 0 [] := ⟨rfl, .inr ⟨g, 0, #[], rfl, hg, hq, Nat.le_refl _, by unfold maxLen; omega, rfl, rfl⟩⟩
  obtain ⟨s', w', hr, hn, hb, ho⟩ := run_copy_own w g B ty s zs hs hl own0 hB
  refine ⟨s', w', hr, hb, ?_⟩
  have hlen := hs.reads.len
  obtain ⟨a, c, e, hre⟩ := own_reads (k := .i8) ho (by omega) hs.reads.wf_mem (fun j hj => copy_at .i8 zs j (by omega))
  have e' : s' = ⟨a, s'.n, c⟩ := SL.v_inj e
  rcases ho.2 with ⟨h1, h2⟩ | ⟨g', cap, cur, h1, h2, h3, h4, _⟩
  · have : s' = ⟨none, 0, 0⟩ := SL.v_inj h1
    subst this
    have ha : a = none := by simp at e'; exact e'.1.symm
    subst ha
    exact ⟨⟨hre, fun _ => rfl, Nat.le_refl _⟩, fun x hx => by cases hx⟩
  · have e2 : s' = ⟨some ⟨g', 0, none⟩, s'.n, cap⟩ := SL.v_inj h1
    have ha : a = some ⟨g', 0, none⟩ := by rw [e2] at e'; simp at e'; exact e'.1.symm
    have hc : c = cap := by rw [e2] at e'; simp at e'; exact e'.2.symm
    subst ha
    subst hc
    rw [e2]
    exact ⟨⟨by simpa using hre, (fun h => by cases h), h4⟩, fun x hx => by obtain rfl := Option.some.inj hx; exact ⟨h2, cur, (0, 0), h3⟩⟩
end

/- The region that copies several lists of a layer side by side: whatever order it draws. -/
section
open Go.ChangeShapes Go.WideShapes Go.ChangeAt Go.RowKit
set_option linter.unusedVariables false

theorem dep_of' {o : Oper} {l : Nat → Bool} {deps : List Nat} (hp : deps.all (fun d => o.after.any fun e => e.on == d && Region.binds .any e) = true) (hd : ∀ e ∈ o.after, Region.binds .any e = true → l e.on = true) : ∀ d ∈ deps, l d = true := by
  intro d hm
  have := List.all_eq_true.1 hp d hm
  obtain ⟨i, hi, h2⟩ := Array.any_eq_true.1 this
  simp only [Bool.and_eq_true, beq_iff_eq] at h2
  rw [← h2.1]
  exact hd o.after[i] (Array.getElem_mem hi) h2.2

def copD (k base i : Nat) : Option Nat := if i < 4 * k then some (base + i) else if (i - 4 * k) % 2 = 0 then some (base + 4 * k + (i - 4 * k) / 2) else none
theorem copD_inj {k base : Nat} {i j d : Nat} (hi : i < 6 * k) (hj : j < 6 * k) (h1 : copD k base i = some d) (h2 : copD k base j = some d) : i = j := by
  unfold copD at h1 h2
  split at h1 <;> split at h2
  · simp at h1 h2; omega
  · split at h2
    · simp at h1 h2; omega
    · cases h2
  · split at h1
    · simp at h1 h2; omega
    · cases h1
  · split at h1
    · split at h2
      · simp at h1 h2; omega
      · cases h2
    · cases h1

theorem copD_low {k base i s : Nat} (h : s < base) : copD k base i ≠ some s := by
  intro e
  unfold copD at e
  split at e
  · simp at e; omega
  · split at e
    · simp at e; omega
    · cases e
theorem copD_high {k base i s : Nat} (hi : i < 6 * k) (h : base + 5 * k ≤ s) : copD k base i ≠ some s := by
  intro e
  unfold copD at e
  split at e
  · simp at e; omega
  · split at e
    · simp at e; omega
    · cases e

def copF (k f0 tb B : Nat) (Y : Nat → SL) (Z : Nat → List Int) (i : Nat) (v : Value) (w : World) : Prop :=
  if i < 4 * k then
    (if i % 4 = 0 then ∃ g, v = .slice (some ⟨g, 0, none⟩) 0 0 ∧ B ≤ g ∧ Blk 46 w g #[] else if i % 4 = 1 then v = .pointer (some ⟨tb, f0 + i / 4, none⟩) else if i % 4 = 2 then v = (Y (i / 4)).v else ∃ s : SL, v = s.v ∧ TS B w s (Z (i / 4)))
  else (i - 4 * k) % 2 = 0 → v = .pointer (some ⟨tb, f0 + (i - 4 * k) / 2, none⟩)

theorem copF_step {k f0 tb B : Nat} {Y : Nat → SL} {Z : Nat → List Int} {i : Nat} {v : Value} {w w' : World} (h : copF k f0 tb B Y Z i v w) (hk : Keeps 46 w w') : copF k f0 tb B Y Z i v w' := by
  unfold copF at h ⊢
  split
  · rename_i h1
    rw [if_pos h1] at h
    split
    · rename_i h2
      rw [if_pos h2] at h
      obtain ⟨g, e1, e2, e3⟩ := h
      exact ⟨g, e1, e2, hk.blk e3⟩
    · rename_i h2
      rw [if_neg h2] at h
      split
      · rename_i h3
        rw [if_pos h3] at h
        exact h
      · rename_i h3
        rw [if_neg h3] at h
        split
        · rename_i h4
          rw [if_pos h4] at h
          exact h
        · rename_i h4
          rw [if_neg h4] at h
          obtain ⟨s, e1, e2⟩ := h
          exact ⟨s, e1, e2.step hk⟩
  · rename_i h1
    rw [if_neg h1] at h
    exact h

/-- the cells of the layer: those that are stored are the copies -/
def copR (k base f0 tb : Nat) (old : Nat → Value) (w0 : World) (l : Nat → Bool) (a : Act) (w : World) : Prop :=
  Only tb w0 w ∧ (∀ j, j < k → (l (4 * k + 2 * j + 1) = true → l (4 * j + 3) = true) ∧ (l (4 * j + 3) = true → l (4 * j + 2) = true)) ∧
  ∃ cs : Array Value, Blk 59 w tb cs ∧ cs.size = 9 ∧ ∀ f, f < 9 → cs[f]? = some (if f0 ≤ f ∧ f < f0 + k ∧ l (4 * k + 2 * (f - f0) + 1) = true then a.tmps.getD (base + 4 * (f - f0) + 3) undef else old f)

theorem copies_region {id : Nat} {ops : Array Oper} {Q : Exit → Act → World → Prop} {a0 : Act} {w0 : World} (k base f0 tb : Nat) (Y : Nat → SL) (Z : Nat → List Int) (old : Nat → Value) (cs0 : Array Value) (hB : lowB ops = true) (hsz : ops.size = 6 * k)
    (hops : ∀ j, j < k → OpAt ops (4 * j) (some (base + 4 * j)) (.buildSlice 26 0 #[]) [] ∧ OpAt ops (4 * j + 1) (some (base + 4 * j + 1)) (.fieldAddr 59 (.tmp 5) (f0 + j)) [] ∧ OpAt ops (4 * j + 2) (some (base + 4 * j + 2)) (.load 26 (.tmp (base + 4 * j + 1))) [4 * j + 1] ∧
      OpAt ops (4 * j + 3) (some (base + 4 * j + 3)) (.call { callee := .builtin .append, args := #[.tmp (base + 4 * j), .tmp (base + 4 * j + 2)], argTypes := #[26, 26] }) [4 * j, 4 * j + 2] ∧
      OpAt ops (4 * k + 2 * j) (some (base + 4 * k + j)) (.fieldAddr 59 (.tmp 5) (f0 + j)) [] ∧ OpAt ops (4 * k + 2 * j + 1) none (.store 26 (.tmp (base + 4 * k + j)) (.tmp (base + 4 * j + 3))) [4 * k + 2 * j, 4 * j + 3])
    (h5 : a0.tmps.getD 5 undef = .pointer (some ⟨tb, 0, none⟩)) (hb5 : 5 < base) (hN : base + 5 * k ≤ a0.tmps.size) (hf0 : f0 + k ≤ 9)
    (q0 : Blk 59 w0 tb cs0) (hcs : cs0.size = 9) (hold : ∀ f, f < 9 → cs0[f]? = some (old f)) (hY : ∀ j, j < k → old (f0 + j) = (Y j).v ∧ IsS w0 (Y j) (Z j) ∧ (Z j).length ≤ 140737488355328 ∧ ∀ x, (Y j).a = some x → 0 < (Y j).n → x.block ≠ tb)
    (fin : ∀ a w (S : Nat → SL) cs, a.tmps.size = a0.tmps.size → a.defers = a0.defers → (∀ s, s < base ∨ base + 5 * k ≤ s → a.tmps.getD s undef = a0.tmps.getD s undef) → Only tb w0 w → Blk 59 w tb cs → cs.size = 9 → (∀ f, f < 9 → cs[f]? = some (if f0 ≤ f ∧ f < f0 + k then (S (f - f0)).v else old f)) → (∀ j, j < k → TS w0.heap.size w (S j) (Z j)) → Q .normal a w) :
    (Code.region id ops true).wp Try.prog Q a0 w0 := by
  have htb := q0.lt
  refine wp_region_inv (by kernel_rfl) hB (Inv (6 * k) (copD k base) a0 (copR k base f0 tb old w0) (fun _ => copF k f0 tb w0.heap.size Y Z)) (Inv.start ⟨⟨rfl, rfl, rfl, Nat.le_refl _, fun _ _ _ => rfl⟩, (fun j _ => ⟨(fun h => by cases h), (fun h => by cases h)⟩), cs0, q0, hcs, fun f hf => by rw [hold f hf, if_neg (by simp)]⟩) ?_ ?_
  · intro l i o a w ho hl hdep hI
    have hi : i < 6 * k := by rw [← hsz]; exact (Array.getElem?_eq_some_iff.1 ho).1
    obtain ⟨honly, hst, cs, hq, hcz, hcell⟩ := hI.world
    have hsB := honly.size
    have ev : ∀ (s : Nat), a.eval (.tmp s) = a.tmps.getD s undef := fun _ => rfl
    have inj : ∀ d, copD k base i = some d → ∀ j d', j < 6 * k → copD k base j = some d' → j ≠ i → d' ≠ d := fun d hd j d' hj hd' hne e => hne (copD_inj hj hi (by rw [hd', e]) hd)
    have e5' : a.eval (.tmp 5) = .pointer (some ⟨tb, 0, none⟩) := (hI.kept 5 (fun j _ => copD_low (by omega))).trans h5
    have hlen : ∀ d v, (a.put (some d) v).tmps.size = a.tmps.size := fun d v => by show (a.tmps.setIfInBounds d v).size = _; rw [Array.size_setIfInBounds]
    -- an operation that leaves a value and keeps, or grows, the world
    have go : ∀ {d v w'}, copD k base i = some d → Below w.heap.size w w' → (∀ j, j < k → i ≠ 4 * k + 2 * j + 1) → (∀ j, j < k → i = 4 * j + 3 → l (4 * j + 2) = true) → copF k f0 tb w0.heap.size Y Z i v w' → Inv (6 * k) (copD k base) a0 (copR k base f0 tb old w0) (fun _ => copF k f0 tb w0.heap.size Y Z) (fun j => l j || j == i) (a.put (some d) v) w' := by
      intro d v w' hD hw hne hdl hF
      have hd : d < a0.tmps.size := by
        unfold copD at hD
        split at hD
        · simp at hD; omega
        · split at hD
          · simp at hD; omega
          · cases hD
      refine hI.put hi hD hd (inj d hD) ⟨honly.trans (Only.of_below hw), fun j hj => ⟨fun h => ?_, fun h => ?_⟩, cs, hq.kept hw, hcz, fun f hf => ?_⟩ hF fun j u _ _ _ hf => copF_step hf (Keeps.of_below hw)
      · have : l (4 * k + 2 * j + 1) = true := by
          simp only [Bool.or_eq_true, beq_iff_eq] at h
          rcases h with h | h
          · exact h
          · exact absurd h.symm (hne j hj)
        simp [(hst j hj).1 this]
      · simp only [Bool.or_eq_true, beq_iff_eq] at h
        rcases h with h | h
        · simp [(hst j hj).2 h]
        · simp [hdl j hj h.symm]
      · rw [hcell f hf]
        congr 1
        by_cases c : f0 ≤ f ∧ f < f0 + k
        · have hj : f - f0 < k := by omega
          have e1 : (l (4 * k + 2 * (f - f0) + 1) || 4 * k + 2 * (f - f0) + 1 == i) = l (4 * k + 2 * (f - f0) + 1) := by
            have : (4 * k + 2 * (f - f0) + 1 == i) = false := by simp; exact Ne.symm (hne _ hj)
            rw [this, Bool.or_false]
          simp only [e1]
          by_cases h : l (4 * k + 2 * (f - f0) + 1) = true
          · rw [if_pos ⟨c.1, c.2, h⟩, if_pos ⟨c.1, c.2, h⟩, get_put a d v _ (by rw [hI.size]; exact hd), if_neg]
            intro e
            have h3 := (hst _ hj).1 h
            have : i = 4 * (f - f0) + 3 := copD_inj (d := d) hi (by omega) hD (by unfold copD; rw [if_pos (by omega), ← e]; congr 1)
            rw [this] at hl
            rw [hl] at h3
            cases h3
          · rw [if_neg (fun h' => h h'.2.2), if_neg (fun h' => h h'.2.2)]
        · rw [if_neg (fun h' => c ⟨h'.1, h'.2.1⟩), if_neg (fun h' => c ⟨h'.1, h'.2.1⟩)]
    by_cases hi4 : i < 4 * k
    · obtain ⟨j, r, hj, hr, rfl⟩ : ∃ j r, j < k ∧ r < 4 ∧ i = 4 * j + r := ⟨i / 4, i % 4, by omega, by omega, by omega⟩
      have hD : copD k base (4 * j + r) = some (base + (4 * j + r)) := by unfold copD; rw [if_pos hi4]
      obtain ⟨o0, o1, o2, o3, _, _⟩ := hops j hj
      have dv : ∀ r, r < 4 → (4 * j + r) % 4 = r ∧ (4 * j + r) / 4 = j := fun r hr => by omega
      have val : ∀ r', r' < 4 → l (4 * j + r') = true → copF k f0 tb w0.heap.size Y Z (4 * j + r') (a.tmps.getD (base + (4 * j + r')) undef) w := fun r' hr' h => hI.val (4 * j + r') (base + (4 * j + r')) (by omega) (by unfold copD; rw [if_pos (by omega)]) h
      rcases (show r = 0 ∨ r = 1 ∨ r = 2 ∨ r = 3 by omega) with rfl | rfl | rfl | rfl
      · obtain ⟨o', e1, e2, e3, e4, e5⟩ := o0
        obtain rfl := Option.some.inj (ho.symm.trans e1)
        refine wpOp_value (v := .slice (some ⟨w.heap.size, 0, none⟩) 0 0) (w' := w.alloc (.cells #[] 46)) ho e4 ?_ (by rw [e2]; exact go hD (below_new (Below.refl _ _) _) (fun j' _ => by omega) (fun j' _ h => by omega) (by unfold copF; rw [if_pos hi4, if_pos (dv 0 hr).1]; exact ⟨_, rfl, hsB, Blk.new 46 w #[]⟩))
        simp [execOp, e3, run_build0]
      · obtain ⟨o', e1, e2, e3, e4, e5⟩ := o1
        obtain rfl := Option.some.inj (ho.symm.trans e1)
        refine wpOp_value (v := .pointer (some ⟨tb, f0 + j, none⟩)) (w' := w) ho e4 ?_ (by rw [e2]; exact go hD (Below.refl _ _) (fun j' _ => by omega) (fun j' _ h => by omega) (by unfold copF; rw [if_pos hi4, if_neg (by have := (dv 1 hr).1; omega), if_pos (dv 1 hr).1, (dv 1 hr).2]))
        simp [execOp, e3, e5', run_field tb (f0 + j) (by omega)]
      · obtain ⟨o', e1, e2, e3, e4, e5⟩ := o2
        obtain rfl := Option.some.inj (ho.symm.trans e1)
        have dp := dep_of' e5 hdep
        have ev1 := val 1 (by omega) (dp _ (by simp))
        unfold copF at ev1
        rw [if_pos (by omega), if_neg (by have := (dv 1 (by omega)).1; omega), if_pos (dv 1 (by omega)).1, (dv 1 (by omega)).2] at ev1
        have hnst : ¬ l (4 * k + 2 * j + 1) = true := fun h => by
          have h2 := (hst j hj).2 ((hst j hj).1 h)
          rw [hl] at h2
          cases h2
        have hc := hcell (f0 + j) (by omega)
        rw [show f0 + j - f0 = j by omega, if_neg (fun h => hnst h.2.2), (hY j hj).1] at hc
        have hcc := hq.cell (f0 + j) hc
        refine wpOp_value (v := (Y j).v) (w' := w) ho e4 ?_ (by rw [e2]; exact go hD (Below.refl _ _) (fun j' _ => by omega) (fun j' _ h => by omega) (by unfold copF; rw [if_pos hi4, if_neg (by have := (dv 2 hr).1; omega), if_neg (by have := (dv 2 hr).1; omega), if_pos (dv 2 hr).1, (dv 2 hr).2]))
        simp [execOp, e3, ev, Nat.add_assoc, ev1, run_load26 hcc, SL.v]
      · obtain ⟨o', e1, e2, e3, e4, e5⟩ := o3
        obtain rfl := Option.some.inj (ho.symm.trans e1)
        have dp := dep_of' e5 hdep
        have ev0 := val 0 (by omega) (dp _ (by simp))
        unfold copF at ev0
        rw [if_pos (by omega), if_pos (dv 0 (by omega)).1] at ev0
        obtain ⟨g, ev1, hgB, hgq⟩ := ev0
        have ev2 := val 2 (by omega) (dp _ (by simp))
        unfold copF at ev2
        rw [if_pos (by omega), if_neg (by have := (dv 2 (by omega)).1; omega), if_neg (by have := (dv 2 (by omega)).1; omega), if_pos (dv 2 (by omega)).1, (dv 2 (by omega)).2] at ev2
        obtain ⟨_, hSj, hZj, hne⟩ := hY j hj
        have hSw : IsS w (Y j) (Z j) := ⟨hSj.reads.other honly (fun x hx h0 => hne x hx h0), hSj.nil, hSj.cap⟩
        obtain ⟨s', w', hrn, hbw, hts⟩ := run_copy_ts w g w0.heap.size o.type (Y j) (Z j) hSw hZj hgB hgq hsB
        refine wpOp_value (v := s'.v) (w' := w') ho e4 ?_ (by rw [e2]; exact go hD hbw (fun j' _ => by omega) (fun j' hj' h => (show j = j' by omega) ▸ dp (4 * j + 2) (by simp)) (by unfold copF; rw [if_pos hi4, if_neg (by have := (dv 3 hr).1; omega), if_neg (by have := (dv 3 hr).1; omega), if_neg (by have := (dv 3 hr).1; omega), (dv 3 hr).2]; exact ⟨s', rfl, hts⟩))
        simp only [Nat.add_zero] at ev1
        rw [← Nat.add_assoc] at ev2
        simp only [execOp, e3, resolve, invoke, builtin, Sem.run_bind, Sem.run_pure, Result.andThen_ok, List.map_toArray, List.map_cons, List.map_nil, ev, ev1, ev2, SL.v, hrn]
    · obtain ⟨j, r, hj, hr, rfl⟩ : ∃ j r, j < k ∧ r < 2 ∧ i = 4 * k + 2 * j + r := ⟨(i - 4 * k) / 2, (i - 4 * k) % 2, by omega, by omega, by omega⟩
      obtain ⟨_, _, _, _, o4, o5⟩ := hops j hj
      rcases (show r = 0 ∨ r = 1 by omega) with rfl | rfl
      · obtain ⟨o', e1, e2, e3, e4, e5⟩ := o4
        obtain rfl := Option.some.inj (ho.symm.trans e1)
        have hD : copD k base (4 * k + 2 * j + 0) = some (base + 4 * k + j) := by unfold copD; rw [if_neg (by omega), if_pos (by omega)]; congr 1; omega
        refine wpOp_value (v := .pointer (some ⟨tb, f0 + j, none⟩)) (w' := w) ho e4 ?_ (by rw [e2]; exact go hD (Below.refl _ _) (fun j' _ => by omega) (fun j' _ h => by omega) (by unfold copF; rw [if_neg (by omega)]; intro _; congr 3; omega))
        simp [execOp, e3, e5', run_field tb (f0 + j) (by omega)]
      · obtain ⟨o', e1, e2, e3, e4, e5⟩ := o5
        obtain rfl := Option.some.inj (ho.symm.trans e1)
        have dp := dep_of' e5 hdep
        have ev1 := hI.val (4 * k + 2 * j) (base + 4 * k + j) (by omega) (by unfold copD; rw [if_neg (by omega), if_pos (by omega)]; congr 1; omega) (dp _ (by simp))
        unfold copF at ev1
        rw [if_neg (by omega)] at ev1
        replace ev1 := ev1 (by omega)
        rw [show (4 * k + 2 * j - 4 * k) / 2 = j by omega] at ev1
        have h3 := dp (4 * j + 3) (by simp)
        have ev2 := hI.val (4 * j + 3) (base + (4 * j + 3)) (by omega) (by unfold copD; rw [if_pos (by omega)]) h3
        unfold copF at ev2
        rw [if_pos (by omega), if_neg (by omega), if_neg (by omega), if_neg (by omega), show (4 * j + 3) / 4 = j by omega, ← Nat.add_assoc] at ev2
        obtain ⟨s, es, hts⟩ := ev2
        have hc := hcell (f0 + j) (by omega)
        have hcc := hq.cell (f0 + j) hc
        have hfz := hq.open_ (f0 + j)
        have ht5 : Keeps 46 w (w.setCell ⟨tb, f0 + j, none⟩ s.v) := Keeps.of_only (Only.set tb (f0 + j) w s.v) hq (by decide)
        refine wpOp_skip (w' := w.setCell ⟨tb, f0 + j, none⟩ s.v) ho e4 ?_ ?_
        · have hrn := run_store26 (a := s.a) (n := s.n) (c := s.c) hcc hfz
          simp [execOp, e3, ev, ev1, es, SL.v, hrn]
        · rw [e2]
          refine hI.none_ (by unfold copD; rw [if_neg (by omega), if_neg (by omega)]) ⟨honly.trans (Only.set tb (f0 + j) w s.v), fun j' hj' => ⟨fun h => ?_, fun h => ?_⟩, cs.setIfInBounds (f0 + j) s.v, hq.set (f0 + j) s.v, by rw [Array.size_setIfInBounds]; exact hcz, fun f hf => ?_⟩ fun j' u _ _ _ hf => copF_step hf ht5
          · simp only [Bool.or_eq_true, beq_iff_eq] at h ⊢
            rcases h with h | h
            · exact .inl ((hst j' hj').1 h)
            · obtain rfl : j = j' := by omega
              exact .inl h3
          · simp only [Bool.or_eq_true, beq_iff_eq] at h ⊢
            rcases h with h | h
            · exact .inl ((hst j' hj').2 h)
            · omega
          · rw [Array.getElem?_setIfInBounds]
            by_cases e : f0 + j = f
            · subst e
              rw [if_pos rfl, if_pos (by omega), if_pos ⟨by omega, by omega, by rw [show f0 + j - f0 = j by omega]; simp⟩, show f0 + j - f0 = j by omega, es]
            · rw [if_neg e, hcell f hf]
              congr 1
              by_cases c : f0 ≤ f ∧ f < f0 + k
              · have e1 : (l (4 * k + 2 * (f - f0) + 1) || 4 * k + 2 * (f - f0) + 1 == 4 * k + 2 * j + 1) = l (4 * k + 2 * (f - f0) + 1) := by
                  have : (4 * k + 2 * (f - f0) + 1 == 4 * k + 2 * j + 1) = false := by simp; omega
                  rw [this, Bool.or_false]
                simp only [e1]
              · rw [if_neg (fun h' => c ⟨h'.1, h'.2.1⟩), if_neg (fun h' => c ⟨h'.1, h'.2.1⟩)]
  · intro l a w hall hI
    obtain ⟨honly, hst, cs, hq, hcz, hcell⟩ := hI.world
    have hv : ∀ j, j < k → ∃ s : SL, a.tmps.getD (base + 4 * j + 3) undef = s.v ∧ TS w0.heap.size w s (Z j) := fun j hj => by
      have ev2 := hI.val (4 * j + 3) (base + (4 * j + 3)) (by omega) (by unfold copD; rw [if_pos (by omega)]) (hall _ (by omega))
      unfold copF at ev2
      rw [if_pos (by omega), if_neg (by omega), if_neg (by omega), if_neg (by omega), show (4 * j + 3) / 4 = j by omega, ← Nat.add_assoc] at ev2
      exact ev2
    obtain ⟨S, hS⟩ : ∃ S : Nat → SL, ∀ j, j < k → a.tmps.getD (base + 4 * j + 3) undef = (S j).v ∧ TS w0.heap.size w (S j) (Z j) := by
      refine ⟨fun j => if h : j < k then (hv j h).choose else SL.nought, fun j hj => ?_⟩
      simp only [dif_pos hj]
      exact (hv j hj).choose_spec
    refine fin a w S cs hI.size hI.defers (fun s hs => hI.kept s fun i hi => ?_) honly hq hcz (fun f hf => ?_) fun j hj => (hS j hj).2
    · rcases hs with h | h
      · exact copD_low h
      · exact copD_high hi h
    · rw [hcell f hf]
      congr 1
      by_cases c : f0 ≤ f ∧ f < f0 + k
      · rw [if_pos c, if_pos ⟨c.1, c.2, hall _ (by omega)⟩]
        exact (hS (f - f0) (by omega)).1
      · rw [if_neg c, if_neg (fun h' => c ⟨h'.1, h'.2.1⟩)]
end

/- Appends in the walk: a list copied, a list put behind lists, a layer put behind layers. -/
section
open Go.ChangeShapes Go.WideShapes Go.ChangeAt Go.RowKit
set_option linter.unusedVariables false

theorem wpList_copy_ts {ops : Array Oper} {rest : List Oper} {o : Oper} {a : Act} {w : World} {Q : Exit → Act → World → Prop} (hgd : o.guard = none) (s x : Operand) (ho : o.op = .call { callee := .builtin .append, args := #[s, x], argTypes := #[26, 26] })
    (B g : Nat) (S : SL) (zs : List Int) (hs : a.eval s = .slice (some ⟨g, 0, none⟩) 0 0) (hx : a.eval x = .slice S.a S.n S.c) (hS : IsS w S zs) (hl : zs.length ≤ 140737488355328) (hg : B ≤ g) (hq : Blk 46 w g #[]) (hB : B ≤ w.heap.size)
    (h : ∀ s' w', Below w.heap.size w w' → TS B w' s' zs → wpList Try.prog ops Q rest (a.put o.dst (.slice s'.a s'.n s'.c)) w') : wpList Try.prog ops Q (o :: rest) a w := by
  refine wpList_plain hgd fun K hK => ?_
  obtain ⟨s', w', hr, hb, ht⟩ := run_copy_ts w g B o.type S zs hS hl hg hq hB
  unfold Oper.wp execOp
  simp only [ho, resolve, invoke, builtin, Sem.run_bind, Sem.run_pure, Result.andThen_ok, List.map_toArray, List.map_cons, List.map_nil, hs, hx, hr]
  exact hK _ _ (h s' w' hb ht)

/-- a list is put behind lists -/
theorem wpList_push {ops : Array Oper} {rest : List Oper} {o : Oper} {a : Act} {w : World} {Q : Exit → Act → World → Prop} (hgd : o.guard = none) (s x : Operand) (ho : o.op = .call { callee := .builtin .append, args := #[s, x], argTypes := #[57, 57] })
    (B k : Nat) (v : Value) (R : Nat → SL) (Z : Nat → List Int) (S : SL) (g c : Nat) (hs : a.eval s = v) (hx : a.eval x = .slice (some ⟨g, 0, none⟩) 1 c) (hT : TG B w v k R Z) (hc : w.cell? ⟨g, 0, none⟩ = some S.v) (hS : TS B w S (Z k)) (hl : (k + 1) * 24 ≤ 140737488355328) (hB : B ≤ w.heap.size)
    (h : ∀ v' w', Below B w w' → Keeps 29 w w' → Keeps 59 w w' → TG B w' v' (k + 1) (upd R k S) Z → wpList Try.prog ops Q rest (a.put o.dst v') w') : wpList Try.prog ops Q (o :: rest) a w := by
  obtain ⟨i0, hi, hz0, hz1, hz2⟩ := i26'
  refine wpList_plain hgd fun K hK => ?_
  refine wp_append_own w s x 57 ho B 26 i0 nilS 1 24 Try.underlying57 hi hz0 hz1 hz2 rfl (by decide) v k _ hs hT.own ⟨g, 0, none⟩ 1 c [S.v] hx rfl (fun j u hj => by
    match j, hj with
    | 0, hj => simp at hj; subst hj; simpa [Addr.add] using hc) (fun u hu => by simp at hu; subst hu; rfl) (by unfold maxLen; omega) hl hB fun v' w' own' hg _ => hK _ _ (h v' w' ?_ ?_ ?_ ?_)
  · exact (Below.refl B w).grown hg hB fun g h => (hT.own.lt g h).1
  · exact Keeps.of_own hg hT.own (by decide)
  · exact Keeps.of_own hg hT.own (by decide)
  · have k46 : Keeps 46 w w' := Keeps.of_own hg hT.own (by decide)
    refine ⟨?_, fun j hj => ?_⟩
    · rw [cellsG_succ, upd_same, cellsG_congr (R' := R) (fun j hj => upd_other R k S (by omega))]
      exact own'
    · by_cases e : j = k
      · subst e
        rw [upd_same]
        exact hS.step k46
      · rw [upd_other R k S e]
        exact (hT.row j (by omega)).step k46

/-- a layer is put behind layers -/
theorem wpList_layer {ops : Array Oper} {rest : List Oper} {o : Oper} {a : Act} {w : World} {Q : Exit → Act → World → Prop} (hgd : o.guard = none) (s x : Operand) (ho : o.op = .call { callee := .builtin .append, args := #[s, x], argTypes := #[27, 27] })
    (B k : Nat) (v : Value) (Y U D : Nat → Nat → SL) (m : ModV) (y uu dd : Nat → SL) (g c : Nat) (hs : a.eval s = v) (hx : a.eval x = .slice (some ⟨g, 0, none⟩) 1 c) (hT : TL B w v k Y U D m) (hc : Blk 59 w g ((List.range 9).map fun r => (y r).v).toArray)
    (hy : TY B w y uu dd (m.f k) (m.un k) (m.dn k) (m.u k) (m.d k)) (hl : (k + 1) * 216 ≤ 140737488355328) (hB : B ≤ w.heap.size)
    (h : ∀ v' w', Below B w w' → TL B w' v' (k + 1) (upd Y k y) (upd U k uu) (upd D k dd) m → wpList Try.prog ops Q rest (a.put o.dst v') w') : wpList Try.prog ops Q (o :: rest) a w := by
  obtain ⟨i0, hi, hz0, hz1, hz2⟩ := i59'
  refine wpList_plain hgd fun K hK => ?_
  refine wp_append_own w s x 27 ho B 59 i0 _ 9 216 Try.underlying27 hi hz0 hz1 hz2 rfl (by decide) v k _ hs hT.own ⟨g, 0, none⟩ 1 c ((List.range 9).map fun r => (y r).v) hx (by simp) (fun j u hj => by
    have e : (⟨g, 0, none⟩ : Addr).add j = ⟨g, j, none⟩ := by by_cases h : j = 0 <;> simp [Addr.add, h]
    rw [e]
    exact hc.cell j (by simpa using hj)) (fun u hu => by obtain ⟨r, _, rfl⟩ := List.mem_map.1 hu; rfl) (by unfold maxLen; omega) hl hB fun v' w' own' hg _ => hK _ _ (h v' w' ?_ ?_)
  · exact (Below.refl B w).grown hg hB fun g h => (hT.own.lt g h).1
  · have k46 : Keeps 46 w w' := Keeps.of_own hg hT.own (by decide)
    have k26 : Keeps 26 w w' := Keeps.of_own hg hT.own (by decide)
    refine ⟨?_, fun j hj => ?_⟩
    · rw [cells9_succ, upd_same, cells9_congr (Y' := Y) (fun j hj r _ => by rw [upd_other Y k y (by omega)])]
      exact own'
    · by_cases e : j = k
      · subst e
        rw [upd_same, upd_same, upd_same]
        exact hy.step k46 k26
      · rw [upd_other Y k y e, upd_other U k uu e, upd_other D k dd e]
        exact (hT.lay j (by omega)).step k46 k26

theorem arr9 {cs : Array Value} {F : Nat → Value} (h : cs.size = 9) (hc : ∀ f, f < 9 → cs[f]? = some (F f)) : cs = #[F 0, F 1, F 2, F 3, F 4, F 5, F 6, F 7, F 8] := by
  apply Array.ext
  · simpa using h
  · intro i h1 h2
    have e := hc i (by omega)
    rw [Array.getElem?_eq_getElem h1] at e
    rw [Option.some.inj e]
    rcases (show i = 0 ∨ i = 1 ∨ i = 2 ∨ i = 3 ∨ i = 4 ∨ i = 5 ∨ i = 6 ∨ i = 7 ∨ i = 8 by omega) with rfl | rfl | rfl | rfl | rfl | rfl | rfl | rfl | rfl <;> rfl

theorem TG.below {B B' : Nat} {w w' : World} {v : Value} {k : Nat} {R : Nat → SL} {Z : Nat → List Int} (h : TG B w v k R Z) (hb : Below w.heap.size w w') : TG B w' v k R Z := h.step (Keeps.of_below hb) (Keeps.of_below hb)
theorem TL.below {B : Nat} {w w' : World} {v : Value} {n : Nat} {Y U D : Nat → Nat → SL} {m : ModV} (h : TL B w v n Y U D m) (hb : Below w.heap.size w w') : TL B w' v n Y U D m := ⟨(Keeps.of_below hb).own h.own, fun i hi => (h.lay i hi).step (Keeps.of_below hb) (Keeps.of_below hb)⟩
theorem TS.le {B B' : Nat} {w : World} {s : SL} {zs : List Int} (h : TS B w s zs) (hb : B' ≤ B) : TS B' w s zs := ⟨h.is, fun x hx => ⟨Nat.le_trans hb (h.blk x hx).1, (h.blk x hx).2⟩⟩
theorem TG.le {B B' : Nat} {w : World} {v : Value} {k : Nat} {R : Nat → SL} {Z : Nat → List Int} (h : TG B w v k R Z) (hb : B' ≤ B) : TG B' w v k R Z := by
  refine ⟨⟨h.own.1, ?_⟩, fun j hj => (h.row j hj).le hb⟩
  rcases h.own.2 with h2 | ⟨g, cap, cur, hv, hg, r⟩
  · exact .inl h2
  · exact .inr ⟨g, cap, cur, hv, by omega, r⟩
theorem TL.le {B B' : Nat} {w : World} {v : Value} {n : Nat} {Y U D : Nat → Nat → SL} {m : ModV} (h : TL B w v n Y U D m) (hb : B' ≤ B) : TL B' w v n Y U D m := by
  refine ⟨⟨h.own.1, ?_⟩, fun i hi => ⟨fun j hj => ((h.lay i hi).f j hj).le hb, (h.lay i hi).u.le hb, (h.lay i hi).d.le hb⟩⟩
  rcases h.own.2 with h2 | ⟨g, cap, cur, hv, hg, r⟩
  · exact .inl h2
  · exact .inr ⟨g, cap, cur, hv, by omega, r⟩
end

end Go.Proofs.Ytjbeloljbjfibaa
