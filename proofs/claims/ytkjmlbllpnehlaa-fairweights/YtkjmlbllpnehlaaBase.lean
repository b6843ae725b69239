/- Blocks, rows of the call's own, and what a call leaves of them. -/
import Derived.Test.YtkjmlbllpnehlaaRows
import Derived.Test.YtkjmlbllpnehlaaView
import Derived.Test.YtkjmlbllpnehlaaOwn
import Derived.Test.YtkjmlbllpnehlaaInvIn
import Derived.WalkKit
import Derived.ProofKit
import Derived.OpenShut
import Derived.Below
import Derived.WalkLawsBesides
import Derived.Deep.QuietTactic
import Derived.BigQuiet
import Derived.OwnWalk
import Derived.Laws.OwnMore
import Derived.Maps.OwnSet
import Derived.Maps.Own
import Derived.Maps.AppendAt
import Derived.Laws.MakeOwn
import Derived.Deep.MidRow
namespace Go.Proofs.Ytkjmlbllpnehlaa
set_option maxRecDepth 20000
open Go.ChangeShapes Go.WideShapes Go.ChangeAt Go.RowKit
set_option linter.unusedVariables false
set_option linter.unusedSimpArgs false

theorem wf_i64 {x : Int} (h0 : -9223372036854775808 ≤ x) (h1 : x ≤ 9223372036854775807) : (Lit.int .i64 x).wf = true := by
  simpa [Lit.wf, IntKind.min, IntKind.max, IntKind.signed, IntKind.bits] using And.intro h0 h1

theorem hidden_ {p : Prop} (h : p) : Hid p := h

def upd {α : Type} (f : Nat → α) (i : Nat) (v : α) : Nat → α := fun j => if j = i then v else f j

theorem upd_same {α : Type} (f : Nat → α) (i : Nat) (v : α) : upd f i v i = v := by simp [upd]

theorem upd_other {α : Type} (f : Nat → α) (i : Nat) (v : α) (j : Nat) (h : j ≠ i) : upd f i v j = f j := by simp [upd, h]

/-- a block of so many cells of a type -/
def Row (t : TypeId) (w : World) (g m : Nat) : Prop := ∃ cs, w.heap[g]? = some (.cells cs t (0, 0)) ∧ cs.size = m

theorem Row.lt {t : TypeId} {w : World} {g m : Nat} (h : Row t w g m) : g < w.heap.size := by
  obtain ⟨cs, e, _⟩ := h
  exact (Array.getElem?_eq_some_iff.1 e).1

theorem Row.some_ {t : TypeId} {w : World} {g m : Nat} (h : Row t w g m) (o : Nat) (ho : o < m) : ∃ v, w.cell? ⟨g, o, none⟩ = some v := by
  obtain ⟨cs, e, hs⟩ := h
  exact ⟨cs[o]'(by omega), by simp [World.cell?, e, show o < cs.size by omega]⟩

theorem Row.open_ {t : TypeId} {w : World} {g m : Nat} (h : Row t w g m) (o : Nat) : w.frozen? ⟨g, o, none⟩ = false := by
  obtain ⟨cs, e, hs⟩ := h
  simp [World.frozen?, e]

theorem Row.there {t : TypeId} {w : World} {g m : Nat} (h : Row t w g m) (o k : Nat) (hk : o + k ≤ m) : w.there g o k := fun j hj => by
  obtain ⟨v, e⟩ := h.some_ (o + j) (by omega)
  exact ⟨by rw [e]; rfl, h.open_ _⟩

theorem Row.set {t : TypeId} {w : World} {g m : Nat} (h : Row t w g m) (o : Nat) (v : Value) : Row t (w.setCell ⟨g, o, none⟩ v) g m := by
  obtain ⟨cs, e, hs⟩ := h
  refine ⟨cs.setIfInBounds o v, ?_, by simpa using hs⟩
  rw [setCell_eq_setRow w g o cs t (0, 0) v e]
  exact setRow_heap w g cs _ t (0, 0) e

theorem Row.sets {t : TypeId} {g m : Nat} (vs : List Value) : ∀ {w : World} (o : Nat), Row t w g m → Row t (w.setCells g o vs) g m := by
  induction vs with
  | nil => intro w o h; exact h
  | cons v r ih => intro w o h; exact ih (o + 1) (h.set o v)

theorem Row.of_block {t : TypeId} {w w' : World} {g m : Nat} (h : Row t w g m) (e : w'.heap[g]? = w.heap[g]?) : Row t w' g m := by
  obtain ⟨cs, e', hs⟩ := h
  exact ⟨cs, e.trans e', hs⟩

theorem Row.ne {t t' : TypeId} {w : World} {g g' m m' : Nat} (h : Row t w g m) (h' : Row t' w g' m') (ht : t ≠ t') : g ≠ g' := by
  rintro rfl
  obtain ⟨cs, e, hs⟩ := h
  obtain ⟨cs', e', hs'⟩ := h'
  rw [e] at e'
  exact ht (by injection e' with e'; injection e')

theorem setCells_block (g : Nat) (vs : List Value) : ∀ (w : World) (o k : Nat), k ≠ g → (w.setCells g o vs).heap[k]? = w.heap[k]? := by
  induction vs with
  | nil => intro w o k hk; rfl
  | cons v r ih => intro w o k hk; exact (ih _ (o + 1) k hk).trans (Below.heap_setCell w ⟨g, o, none⟩ v k hk)

theorem setCells_rest (g : Nat) (vs : List Value) : ∀ (w : World) (o : Nat), (w.setCells g o vs).os = w.os ∧ (w.setCells g o vs).tape = w.tape ∧ (w.setCells g o vs).output = w.output ∧ (w.setCells g o vs).heap.size = w.heap.size := by
  induction vs with
  | nil => intro w o; exact ⟨rfl, rfl, rfl, rfl⟩
  | cons v r ih =>
    intro w o
    obtain ⟨a, b, c, d⟩ := ih (w.setCell ⟨g, o, none⟩ v) (o + 1)
    exact ⟨a, b, c, d.trans (by simp [World.setCell])⟩

/-- the type of a block's cells -/
def typeOf (w : World) (k : Nat) : Option TypeId := match w.heap[k]? with | some (.cells _ t _) => some t | _ => none

theorem Row.type {t : TypeId} {w : World} {g m : Nat} (h : Row t w g m) : typeOf w g = some t := by
  obtain ⟨cs, e, hs⟩ := h
  simp [typeOf, e]

/-- only blocks from B on of some types have been written, or are new -/
structure Off (B : Nat) (T : TypeId → Bool) (w w' : World) : Prop where
  os : w'.os = w.os
  tape : w'.tape = w.tape
  output : w'.output = w.output
  size : w.heap.size ≤ w'.heap.size
  block : ∀ k, k < w.heap.size → (k < B ∨ ∀ t, typeOf w k = some t → T t = false) → w'.heap[k]? = w.heap[k]?

theorem Off.refl (B : Nat) (T : TypeId → Bool) (w : World) : Off B T w w := ⟨rfl, rfl, rfl, Nat.le_refl _, fun _ _ _ => rfl⟩

theorem Off.trans {B : Nat} {T : TypeId → Bool} {w w' w'' : World} (h : Off B T w w') (k : Off B T w' w'') : Off B T w w'' := by
  refine ⟨k.os.trans h.os, k.tape.trans h.tape, k.output.trans h.output, Nat.le_trans h.size k.size, fun i hi hc => ?_⟩
  have e := h.block i hi hc
  refine (k.block i (Nat.lt_of_lt_of_le hi h.size) ?_).trans e
  rcases hc with hc | hc
  · exact .inl hc
  · exact .inr fun t ht => hc t (by simpa [typeOf, e] using ht)

theorem Off.of_below {B : Nat} {T : TypeId → Bool} {w w' : World} (h : Below w.heap.size w w') : Off B T w w' := ⟨h.os, h.tape, h.output, h.size, fun k hk _ => h.block k hk⟩

theorem Off.below {B : Nat} {T : TypeId → Bool} {w w' : World} (h : Off B T w w') (hB : B ≤ w.heap.size) : Below B w w' :=
  ⟨h.os, h.tape, h.output, h.size, fun k hk => h.block k (by omega) (.inl hk)⟩

theorem Off.drewN {B : Nat} {T : TypeId → Bool} {w w' : World} (h : Off B T w w') (m : Nat) : Off B T w (w'.drewN m) := ⟨h.os, h.tape, h.output, h.size, h.block⟩

theorem Off.alloc {B : Nat} {T : TypeId → Bool} {w w' : World} (h : Off B T w w') (o : Obj) : Off B T w (w'.alloc o) := h.trans (Off.of_below (below_new (Below.refl _ w') o))

theorem Off.set {B : Nat} {T : TypeId → Bool} {t : TypeId} {w : World} {g m : Nat} (h : Row t w g m) (hB : B ≤ g) (hT : T t = true) (o : Nat) (v : Value) : Off B T w (w.setCell ⟨g, o, none⟩ v) := by
  refine ⟨rfl, rfl, rfl, by simp [World.setCell], fun k hk hc => Below.heap_setCell w _ v k fun e => ?_⟩
  have e' : k = g := e
  subst e'
  rcases hc with hc | hc
  · omega
  · rw [hc t h.type] at hT
    exact absurd hT (by decide)

theorem Off.sets {B : Nat} {T : TypeId → Bool} {t : TypeId} {w : World} {g m : Nat} (h : Row t w g m) (hB : B ≤ g) (hT : T t = true) (o : Nat) (vs : List Value) : Off B T w (w.setCells g o vs) := by
  obtain ⟨a, b, c, d⟩ := setCells_rest g vs w o
  refine ⟨a, b, c, by omega, fun k hk hc => setCells_block g vs w o k fun e => ?_⟩
  subst e
  rcases hc with hc | hc
  · omega
  · rw [hc t h.type] at hT
    exact absurd hT (by decide)

theorem Off.row {B : Nat} {T : TypeId → Bool} {w w' : World} (h : Off B T w w') {t : TypeId} {g m : Nat} (r : Row t w g m) (hT : T t = false) : w'.heap[g]? = w.heap[g]? :=
  h.block g r.lt (.inr fun t' ht => by rw [r.type] at ht; injection ht with ht; subst ht; exact hT)

theorem cell_of_block {w w' : World} {g : Nat} (e : w'.heap[g]? = w.heap[g]?) (o : Nat) : w'.cell? ⟨g, o, none⟩ = w.cell? ⟨g, o, none⟩ := World.cell?_of_block (w := w) e

theorem add_at (g o j : Nat) : (⟨g, o, none⟩ : Addr).add j = ⟨g, o + j, none⟩ := Addr.add_mid g o j

theorem add_zero_at (g j : Nat) : (⟨g, 0, none⟩ : Addr).add j = ⟨g, j, none⟩ := by rw [add_at, Nat.zero_add]

theorem own_cap {w : World} {B : Nat} {e : TypeId} {a : Option Addr} {n c : Nat} {cs : List Value} (h : w.ownsRow B e 1 (.slice a n c) n cs) : n ≤ c := by
  rcases h.2 with ⟨h, _⟩ | ⟨g, cap, cur, h, _, _, hn, _⟩
  · simp only [Value.slice.injEq] at h
    omega
  · simp only [Value.slice.injEq] at h
    omega

theorem own_form {w : World} {B : Nat} {e : TypeId} {v : Value} {n : Nat} {cs : List Value} (h : w.ownsRow B e 1 v n cs) : ∃ a c, v = .slice a n c := by
  rcases h.2 with ⟨h1, h'⟩ | ⟨g, cap, cur, h, _, _, hn, _⟩
  · subst h'
    exact ⟨_, _, h1⟩
  · exact ⟨_, _, h⟩

theorem own_off {B B' : Nat} {T : TypeId → Bool} {w w' : World} {e : TypeId} {v : Value} {n : Nat} {cs : List Value} (h : w.ownsRow B e 1 v n cs) (o : Off B' T w w') (hT : T e = false) : w'.ownsRow B e 1 v n cs := by
  refine ⟨h.1, ?_⟩
  rcases h.2 with h | ⟨g, cap, cur, h1, h2, h3, h4⟩
  · exact .inl h
  · exact .inr ⟨g, cap, cur, h1, h2, (o.row (t := e) (g := g) (m := cur.size) ⟨cur, h3, rfl⟩ hT).trans h3, h4⟩

theorem Off.then_below {B : Nat} {T : TypeId → Bool} {w wr w' : World} (o : Off B T w wr) (h : Below w.heap.size wr w') : Off B T w w' :=
  ⟨h.os.trans o.os, h.tape.trans o.tape, h.output.trans o.output, Nat.le_trans o.size h.size, fun k hk hc => (h.block k hk).trans (o.block k hk hc)⟩

theorem ints_snoc (l : List Int) (i : Int) : (l ++ [i]).map (Value.int .i64) = l.map (Value.int .i64) ++ [.int .i64 i] := by simp

theorem ints_at (zs : List Int) (j : Nat) (h : j < zs.length) : (zs.map (Value.int .i64))[j]? = some (.int .i64 (zs.getD j 0)) := by simp [List.getD, h]

/-- a row of numbers of the call's own -/
structure RowI (B : Nat) (w : World) (a : Option Addr) (l c : Nat) (zs : List Int) : Prop where
  len : zs.length = l
  own : w.ownsRow B 3 1 (.slice a l c) l (zs.map (Value.int .i64))
  wf : ∀ z ∈ zs, (Lit.int .i64 z).wf = true

theorem RowI.nil (B : Nat) (w : World) : RowI B w none 0 0 [] := ⟨rfl, World.ownsRow_nil _ _ _ _, by simp⟩

theorem RowI.reads {B : Nat} {w : World} {a : Option Addr} {l c : Nat} {zs : List Int} (h : RowI B w a l c zs) : Reads .i64 w a l zs :=
  own_reads_at h.own h.len h.wf (fun j hj => ints_at _ j (by rw [h.len]; exact hj))

theorem RowI.off {B B' : Nat} {T : TypeId → Bool} {w w' : World} {a : Option Addr} {l c : Nat} {zs : List Int} (h : RowI B w a l c zs) (o : Off B' T w w') (hT : T 3 = false) : RowI B w' a l c zs := ⟨h.len, own_off h.own o hT, h.wf⟩

theorem RowI.below {B : Nat} {w w' : World} {a : Option Addr} {l c : Nat} {zs : List Int} (h : RowI B w a l c zs) (o : Below w.heap.size w w') : RowI B w' a l c zs := h.off (T := fun _ => false) (B' := 0) (Off.of_below o) rfl

theorem RowI.mono {B B' : Nat} {w : World} {a : Option Addr} {l c : Nat} {zs : List Int} (h : RowI B w a l c zs) (hB : B' ≤ B) : RowI B' w a l c zs := by
  refine ⟨h.len, ⟨h.own.1, ?_⟩, h.wf⟩
  rcases h.own.2 with h1 | ⟨g, cap, cur, h1, h2, h3⟩
  · exact .inl h1
  · exact .inr ⟨g, cap, cur, h1, Nat.le_trans hB h2, h3⟩

theorem Off.of_drawn {B m : Nat} {T : TypeId → Bool} {w W w' : World} (o : Off B T W w') (h : W = w.drewN m) : Off B T w w' := by
  subst h
  exact ⟨o.os, o.tape, o.output, o.size, o.block⟩

theorem RowI.lt {B : Nat} {w : World} {a : Option Addr} {l c : Nat} {zs : List Int} (h : RowI B w a l c zs) : ∀ x, a = some x → x.block < w.heap.size := by
  intro x hx
  rcases h.own.2 with ⟨h1, _⟩ | ⟨g, cap, cur, h1, h2, h3, h4⟩
  · simp only [Value.slice.injEq] at h1
    rw [hx] at h1
    cases h1.1
  · simp only [Value.slice.injEq] at h1
    rw [hx] at h1
    obtain rfl := Option.some.inj h1.1
    exact (Array.getElem?_eq_some_iff.1 h3).1

theorem RowI.type {B : Nat} {w : World} {a : Option Addr} {l c : Nat} {zs : List Int} (h : RowI B w a l c zs) : ∀ x, a = some x → ∃ m, Row 3 w x.block m := by
  intro x hx
  rcases h.own.2 with ⟨h1, _⟩ | ⟨g, cap, cur, h1, h2, h3, h4⟩
  · simp only [Value.slice.injEq] at h1
    rw [hx] at h1
    cases h1.1
  · simp only [Value.slice.injEq] at h1
    rw [hx] at h1
    obtain rfl := Option.some.inj h1.1
    exact ⟨_, cur, h3, rfl⟩

section

attribute [local go_sem] Oper.semAt_some

end

/-- only blocks from B on of some types, or of a set, have been written, or are new -/
structure OffS (B : Nat) (T : TypeId → Bool) (S : Nat → Prop) (w w' : World) : Prop where
  os : w'.os = w.os
  tape : w'.tape = w.tape
  output : w'.output = w.output
  size : w.heap.size ≤ w'.heap.size
  block : ∀ k, k < w.heap.size → (k < B ∨ (¬ S k ∧ ∀ t, typeOf w k = some t → T t = false)) → w'.heap[k]? = w.heap[k]?

theorem Off.toS {B : Nat} {T : TypeId → Bool} {w w' : World} (h : Off B T w w') (S : Nat → Prop) : OffS B T S w w' :=
  ⟨h.os, h.tape, h.output, h.size, fun k hk hc => h.block k hk (hc.imp id fun x => x.2)⟩

theorem OffS.refl (B : Nat) (T : TypeId → Bool) (S : Nat → Prop) (w : World) : OffS B T S w w := (Off.refl B T w).toS S

theorem OffS.trans {B : Nat} {T : TypeId → Bool} {S S' : Nat → Prop} {w w' w'' : World} (h : OffS B T S w w') (k : OffS B T S' w' w'') (hS : ∀ i, S' i → S i ∨ w.heap.size ≤ i) : OffS B T S w w'' := by
  refine ⟨k.os.trans h.os, k.tape.trans h.tape, k.output.trans h.output, Nat.le_trans h.size k.size, fun i hi hc => ?_⟩
  have e := h.block i hi hc
  refine (k.block i (Nat.lt_of_lt_of_le hi h.size) ?_).trans e
  rcases hc with hc | hc
  · exact .inl hc
  · exact .inr ⟨fun x => (hS i x).elim hc.1 (fun y => by omega), fun t ht => hc.2 t (by simpa [typeOf, e] using ht)⟩

theorem OffS.mono {B : Nat} {T T' : TypeId → Bool} {S S' : Nat → Prop} {w w' : World} (h : OffS B T S w w') (hT : ∀ t, T' t = false → T t = false) (hS : ∀ i, S i → S' i) : OffS B T' S' w w' :=
  ⟨h.os, h.tape, h.output, h.size, fun k hk hc => h.block k hk (hc.imp id fun x => ⟨fun y => x.1 (hS k y), fun t ht => hT t (x.2 t ht)⟩)⟩

theorem OffS.drewN {B : Nat} {T : TypeId → Bool} {S : Nat → Prop} {w w' : World} (h : OffS B T S w w') (m : Nat) : OffS B T S w (w'.drewN m) := ⟨h.os, h.tape, h.output, h.size, h.block⟩

theorem OffS.below {B : Nat} {T : TypeId → Bool} {S : Nat → Prop} {w w' : World} (h : OffS B T S w w') (hB : B ≤ w.heap.size) : Below B w w' :=
  ⟨h.os, h.tape, h.output, h.size, fun k hk => h.block k (by omega) (.inl hk)⟩

theorem OffS.row {B : Nat} {T : TypeId → Bool} {S : Nat → Prop} {w w' : World} (h : OffS B T S w w') {t : TypeId} {g m : Nat} (r : Row t w g m) (hT : T t = false) (hS : ¬ S g) : w'.heap[g]? = w.heap[g]? :=
  h.block g r.lt (.inr ⟨hS, fun t' ht => by rw [r.type] at ht; injection ht with ht; subst ht; exact hT⟩)

theorem OffS.set {B : Nat} {T : TypeId → Bool} {S : Nat → Prop} {w : World} {g : Nat} (hB : B ≤ g) (hS : S g) (o : Nat) (v : Value) : OffS B T S w (w.setCell ⟨g, o, none⟩ v) := by
  refine ⟨rfl, rfl, rfl, by simp [World.setCell], fun k hk hc => Below.heap_setCell w _ v k fun e => ?_⟩
  have e' : k = g := e
  subst e'
  rcases hc with hc | hc
  · omega
  · exact hc.1 hS

theorem OffS.of_below {B : Nat} {T : TypeId → Bool} {S : Nat → Prop} {w w' : World} (h : Below w.heap.size w w') : OffS B T S w w' := (Off.of_below h).toS S

def blkOf (a : Option Addr) (k : Nat) : Prop := ∃ y, a = some y ∧ y.block = k

theorem own_keep {w w' : World} {B : Nat} {e : TypeId} {q : Nat} {a : Option Addr} {n c : Nat} {cs : List Value} (h : w.ownsRow B e q (.slice a n c) n cs) (hk : ∀ k, blkOf a k → w'.heap[k]? = w.heap[k]?) : w'.ownsRow B e q (.slice a n c) n cs := by
  refine ⟨h.1, ?_⟩
  rcases h.2 with h1 | ⟨g, cap, cur, h1, h2, h3, h4⟩
  · exact .inl h1
  · refine .inr ⟨g, cap, cur, h1, h2, (hk g ?_).trans h3, h4⟩
    simp only [Value.slice.injEq] at h1
    exact ⟨_, h1.1, rfl⟩

theorem own_blk {w : World} {B : Nat} {e : TypeId} {q : Nat} {a : Option Addr} {n c : Nat} {cs : List Value} (h : w.ownsRow B e q (.slice a n c) n cs) {k : Nat} (hk : blkOf a k) : B ≤ k ∧ ∃ m, Row e w k m := by
  obtain ⟨y, rfl, rfl⟩ := hk
  rcases h.2 with ⟨h1, _⟩ | ⟨g, cap, cur, h1, h2, h3, h4⟩
  · cases h1
  · simp only [Value.slice.injEq, Option.some.injEq] at h1
    obtain ⟨rfl, _, _⟩ := h1
    exact ⟨h2, _, cur, h3, rfl⟩

theorem RowI.keep {B : Nat} {w w' : World} {a : Option Addr} {l c : Nat} {zs : List Int} (h : RowI B w a l c zs) (hk : ∀ k, blkOf a k → w'.heap[k]? = w.heap[k]?) : RowI B w' a l c zs := ⟨h.len, own_keep h.own hk, h.wf⟩

theorem wpList_append_run {P : Program} {w : World} {ops : Array Oper} {rest : List Oper} {o : Oper} {a : Act} {Q : Exit → Act → World → Prop} (hgd : o.guard = none) (s x : Operand) (t : TypeId) (ho : o.op = .call { callee := .builtin .append, args := #[s, x], argTypes := #[t, t] })
    (ty : TypeId) (hty : o.type = ty) (V1 V2 : Value) (hs : a.eval s = V1) (hx : a.eval x = V2) (v' : Value) (w' : World) (hrun : (Builtin.append_ #[t, t] ty #[V1, V2]).run P w = .ok v' w') (h : wpList P ops Q rest (a.put o.dst v') w') : wpList P ops Q (o :: rest) a w := by
  refine wpList_plain hgd fun K hK => ?_
  subst hty
  unfold Oper.wp
  simp [execOp, ho, resolve, invoke, builtin, hs, hx, hrun, Result.andThen]
  exact hK _ _ h

theorem own_mono {w : World} {B B' : Nat} {e : TypeId} {q : Nat} {v : Value} {n : Nat} {cs : List Value} (h : w.ownsRow B e q v n cs) (hb : B' ≤ B) : w.ownsRow B' e q v n cs :=
  ⟨h.1, h.2.imp id fun ⟨g, cap, cur, h1, h2, h3⟩ => ⟨g, cap, cur, h1, Nat.le_trans hb h2, h3⟩⟩

theorem restN (x : Int) (n : Nat) (hn : 0 < n) : ∃ M : Nat, M < n ∧ (IntKind.u64.wrap x).tmod (n : Int) = (M : Int) ∧ IntKind.u64.wrap x % (n : Int) = (M : Int) := by
  have b : 0 ≤ IntKind.u64.wrap x := by rw [IntKind.wrap_u64]; omega
  generalize IntKind.u64.wrap x = U at *
  have h0 := Int.emod_nonneg U (show (n : Int) ≠ 0 by omega)
  have h1 := Int.emod_lt_of_pos U (show 0 < (n : Int) by omega)
  refine ⟨(U % (n : Int)).toNat, by omega, ?_, by omega⟩
  rw [Int.tmod_eq_emod_of_nonneg b]
  omega

end Go.Proofs.Ytkjmlbllpnehlaa
