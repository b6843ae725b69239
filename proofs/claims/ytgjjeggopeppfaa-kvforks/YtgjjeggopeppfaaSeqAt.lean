/- Sequences of the program as they lie in memory; what a change of one leaves as it was. -/
import Derived.Test.YtgjjeggopeppfaaRows
import Derived.Test.YtgjjeggopeppfaaPages
import Derived.Test.YtgjjeggopeppfaaView
import Derived.Test.YtgjjeggopeppfaaOwn
import Derived.Test.YtgjjeggopeppfaaLeast
import Derived.Test.YtgjjeggopeppfaaSeqs
import Derived.WalkKit
import Derived.ProofKit
import Derived.OpenShut
import Derived.Below
import Derived.WalkLawsBesides
import Derived.Deep.QuietTactic
import Derived.BigQuiet
namespace Go.Proofs.Ytgjjeggopeppfaa
open Go.ChangeShapes Go.WideShapes Go.ChangeAt Go.RowKit
set_option linter.unusedVariables false

/-- only blocks from B on of some types, or of a set, have been written, or are new -/
structure OffS (B : Nat) (T : TypeId → Bool) (S : Nat → Prop) (w w' : World) : Prop where
  os : w'.os = w.os
  tape : w'.tape = w.tape
  output : w'.output = w.output
  size : w.heap.size ≤ w'.heap.size
  block : ∀ k, k < w.heap.size → (k < B ∨ (¬ S k ∧ ∀ t, typeOf w k = some t → T t = false)) → w'.heap[k]? = w.heap[k]?

theorem Off.toS {B : Nat} {T : TypeId → Bool} {w w' : World} (h : Off B T w w') (S : Nat → Prop) : OffS B T S w w' :=
  ⟨h.os, h.tape, h.output, h.size, fun k hk hc => h.block k hk (hc.imp id fun x => x.2)⟩
theorem OffS.refl (B : Nat) (T : TypeId → Bool) (S : Nat → Prop) (w : World) : OffS B T S w w := (Off.refl B T w).toS S
theorem OffS.trans {B : Nat} {T : TypeId → Bool} {S S' : Nat → Prop} {w w' w'' : World} (h : OffS B T S w w') (k : OffS B T S' w' w'') (hS : ∀ i, S' i → S i ∨ w.heap.size ≤ i) : OffS B T S w w'' := by
  refine ⟨k.os.trans h.os, k.tape.trans h.tape, k.output.trans h.output, Nat.le_trans h.size k.size, fun i hi hc => ?_⟩
  have e := h.block i hi hc
  refine (k.block i (Nat.lt_of_lt_of_le hi h.size) ?_).trans e
  rcases hc with hc | hc
  · exact .inl hc
  · exact .inr ⟨fun x => (hS i x).elim hc.1 (fun y => by omega), fun t ht => hc.2 t (by simpa [typeOf, e] using ht)⟩
theorem OffS.mono {B : Nat} {T T' : TypeId → Bool} {S S' : Nat → Prop} {w w' : World} (h : OffS B T S w w') (hT : ∀ t, T' t = false → T t = false) (hS : ∀ i, S i → S' i) : OffS B T' S' w w' :=
  ⟨h.os, h.tape, h.output, h.size, fun k hk hc => h.block k hk (hc.imp id fun x => ⟨fun y => x.1 (hS k y), fun t ht => hT t (x.2 t ht)⟩)⟩
theorem OffS.drewN {B : Nat} {T : TypeId → Bool} {S : Nat → Prop} {w w' : World} (h : OffS B T S w w') (m : Nat) : OffS B T S w (w'.drewN m) := ⟨h.os, h.tape, h.output, h.size, h.block⟩
theorem OffS.below {B : Nat} {T : TypeId → Bool} {S : Nat → Prop} {w w' : World} (h : OffS B T S w w') (hB : B ≤ w.heap.size) : Below B w w' :=
  ⟨h.os, h.tape, h.output, h.size, fun k hk => h.block k (by omega) (.inl hk)⟩
theorem OffS.row {B : Nat} {T : TypeId → Bool} {S : Nat → Prop} {w w' : World} (h : OffS B T S w w') {t : TypeId} {g m : Nat} (r : Row t w g m) (hT : T t = false) (hS : ¬ S g) : w'.heap[g]? = w.heap[g]? :=
  h.block g r.lt (.inr ⟨hS, fun t' ht => by rw [r.type] at ht; injection ht with ht; subst ht; exact hT⟩)
theorem OffS.set {B : Nat} {T : TypeId → Bool} {S : Nat → Prop} {w : World} {g : Nat} (hB : B ≤ g) (hS : S g) (o : Nat) (v : Value) : OffS B T S w (w.setCell ⟨g, o, none⟩ v) := by
  refine ⟨rfl, rfl, rfl, by simp [World.setCell], fun k hk hc => Below.heap_setCell w _ v k fun e => ?_⟩
  have e' : k = g := e
  subst e'
  rcases hc with hc | hc
  · omega
  · exact hc.1 hS
theorem OffS.of_below {B : Nat} {T : TypeId → Bool} {S : Nat → Prop} {w w' : World} (h : Below w.heap.size w w') : OffS B T S w w' := (Off.of_below h).toS S

def blkOf (a : Option Addr) (k : Nat) : Prop := ∃ y, a = some y ∧ y.block = k
/-- what a sequence itself lies in: its struct, its row of pages -/
def Own (x : Nat) (a : Option Addr) (k : Nat) : Prop := k = x ∨ blkOf a k

theorem RowI.block {B : Nat} {w : World} {a : Option Addr} {l c : Nat} {zs : List Int} (h : RowI B w a l c zs) {k : Nat} (hk : blkOf a k) : B ≤ k ∧ ∃ m, Row 3 w k m := by
  obtain ⟨y, rfl, rfl⟩ := hk
  rcases h.own.2 with ⟨h1, _⟩ | ⟨g, cap, cur, h1, h2, h3, h4⟩
  · cases h1
  · simp only [Value.slice.injEq, Option.some.injEq] at h1
    obtain ⟨rfl, _, _⟩ := h1
    exact ⟨h2, _, cur, h3, rfl⟩
theorem RowI.offS {B B' : Nat} {T : TypeId → Bool} {S : Nat → Prop} {w w' : World} {a : Option Addr} {l c : Nat} {zs : List Int} (h : RowI B w a l c zs) (o : OffS B' T S w w') (hT : T 3 = false) (hS : ∀ k, blkOf a k → ¬ S k) : RowI B w' a l c zs := by
  refine ⟨h.len, ⟨h.own.1, ?_⟩, h.wf⟩
  rcases h.own.2 with h1 | ⟨g, cap, cur, h1, h2, h3, h4⟩
  · exact .inl h1
  · refine .inr ⟨g, cap, cur, h1, h2, (o.row (t := 3) (g := g) (m := cur.size) ⟨cur, h3, rfl⟩ hT (hS g ?_)).trans h3, h4⟩
    simp only [Value.slice.injEq] at h1
    exact ⟨_, h1.1, rfl⟩

/-- a sequence of the program's: its struct in block x, its pool in block b -/
structure SeqAt (B : Nat) (w : World) (x b : Nat) (t : ByteArray) (wd : Nat) (q : Sq) (a : Option Addr) (c : Nat) : Prop where
  Bx : B ≤ x
  top : Row 72 w x 6
  c0 : w.cell? ⟨x, 0, none⟩ = some (.pointer (some ⟨b, 0, none⟩))
  c1 : w.cell? ⟨x, 1, none⟩ = some (.string t)
  c2 : w.cell? ⟨x, 2, none⟩ = some (.int .i64 wd)
  c3 : w.cell? ⟨x, 3, none⟩ = some (.int .i64 q.st)
  c4 : w.cell? ⟨x, 4, none⟩ = some (.int .i64 q.n)
  c5 : w.cell? ⟨x, 5, none⟩ = some (.slice a q.P.length c)
  pg : RowI B w a q.P.length c q.P

theorem SeqAt.of_block {B : Nat} {w w' : World} {x b : Nat} {t : ByteArray} {wd : Nat} {q : Sq} {a : Option Addr} {c : Nat} (h : SeqAt B w x b t wd q a c) (e : w'.heap[x]? = w.heap[x]?) (hp : RowI B w' a q.P.length c q.P) : SeqAt B w' x b t wd q a c :=
  ⟨h.Bx, h.top.of_block e, (cell_of_block e 0).trans h.c0, (cell_of_block e 1).trans h.c1, (cell_of_block e 2).trans h.c2, (cell_of_block e 3).trans h.c3, (cell_of_block e 4).trans h.c4, (cell_of_block e 5).trans h.c5, hp⟩
theorem SeqAt.off {B B' : Nat} {T : TypeId → Bool} {w w' : World} {x b : Nat} {t : ByteArray} {wd : Nat} {q : Sq} {a : Option Addr} {c : Nat} (h : SeqAt B w x b t wd q a c) (o : Off B' T w w') (h1 : T 72 = false) (h2 : T 3 = false) : SeqAt B w' x b t wd q a c :=
  h.of_block (o.row h.top h1) (h.pg.off o h2)
theorem SeqAt.offS {B B' : Nat} {T : TypeId → Bool} {S : Nat → Prop} {w w' : World} {x b : Nat} {t : ByteArray} {wd : Nat} {q : Sq} {a : Option Addr} {c : Nat} (h : SeqAt B w x b t wd q a c) (o : OffS B' T S w w') (h1 : T 72 = false) (h2 : T 3 = false) (hS : ∀ k, Own x a k → ¬ S k) : SeqAt B w' x b t wd q a c :=
  h.of_block (o.row h.top h1 (hS x (.inl rfl))) (h.pg.offS o h2 fun k hk => hS k (.inr hk))
theorem SeqAt.below {B : Nat} {w w' : World} {x b : Nat} {t : ByteArray} {wd : Nat} {q : Sq} {a : Option Addr} {c : Nat} (h : SeqAt B w x b t wd q a c) (o : Below w.heap.size w w') : SeqAt B w' x b t wd q a c := h.off (T := fun _ => false) (B' := 0) (Off.of_below o) rfl rfl
theorem SeqAt.drewN {B : Nat} {w : World} {x b : Nat} {t : ByteArray} {wd : Nat} {q : Sq} {a : Option Addr} {c : Nat} (h : SeqAt B w x b t wd q a c) (m : Nat) : SeqAt B (w.drewN m) x b t wd q a c := h.off (T := fun _ => false) (B' := 0) ((Off.refl _ _ w).drewN m) rfl rfl
theorem SeqAt.type {B : Nat} {w : World} {x b : Nat} {t : ByteArray} {wd : Nat} {q : Sq} {a : Option Addr} {c : Nat} (h : SeqAt B w x b t wd q a c) {k : Nat} (hk : Own x a k) : B ≤ k ∧ k < w.heap.size ∧ (typeOf w k = some 72 ∨ typeOf w k = some 3) := by
  rcases hk with rfl | hk
  · exact ⟨h.Bx, h.top.lt, .inl h.top.type⟩
  · obtain ⟨h1, m, hr⟩ := h.pg.block hk
    exact ⟨h1, hr.lt, .inr hr.type⟩
/-- told by types alone -/
theorem OffS.off {B : Nat} {T : TypeId → Bool} {w w' : World} {x b : Nat} {t : ByteArray} {wd : Nat} {q : Sq} {a : Option Addr} {c : Nat} (o : OffS B T (Own x a) w w') (h : SeqAt B w x b t wd q a c) : Off B (fun t => T t || t == 72 || t == 3) w w' :=
  ⟨o.os, o.tape, o.output, o.size, fun k hk hc => o.block k hk (hc.imp id fun y => ⟨fun z => by
    rcases (h.type z).2.2 with e | e <;> simpa using y _ e, fun t' ht => by have := y t' ht; simp only [Bool.or_eq_false_iff] at this; exact this.1.1⟩)⟩

/-- one of its numbers is another -/
theorem SeqAt.set {B : Nat} {w : World} {x b : Nat} {t : ByteArray} {wd : Nat} {q : Sq} {a : Option Addr} {c : Nat} (h : SeqAt B w x b t wd q a c) (o : Nat) (v : Value) :
    Row 72 (w.setCell ⟨x, o, none⟩ v) x 6 ∧ RowI B (w.setCell ⟨x, o, none⟩ v) a q.P.length c q.P ∧ (∀ j, j ≠ o → (w.setCell ⟨x, o, none⟩ v).cell? ⟨x, j, none⟩ = w.cell? ⟨x, j, none⟩) ∧ OffS B (fun _ => false) (fun k => k = x) w (w.setCell ⟨x, o, none⟩ v) := by
  have os : OffS B (fun _ => false) (fun k => k = x) w (w.setCell ⟨x, o, none⟩ v) := OffS.set (S := fun k => k = x) h.Bx rfl o v
  refine ⟨h.top.set o v, h.pg.offS os rfl (fun k hk e => ?_), fun j hj => World.cell?_setCell_other _ _ _ _ (by first | simp | (simp; omega)), os⟩
  obtain ⟨_, m, hr⟩ := h.pg.block hk
  exact hr.ne h.top (by decide) e
theorem SeqAt.setN {B : Nat} {w : World} {x b : Nat} {t : ByteArray} {wd : Nat} {q : Sq} {a : Option Addr} {c : Nat} (h : SeqAt B w x b t wd q a c) (n : Nat) :
    SeqAt B (w.setCell ⟨x, 4, none⟩ (.int .i64 n)) x b t wd ⟨q.P, q.st, n⟩ a c ∧ OffS B (fun _ => false) (fun k => k = x) w (w.setCell ⟨x, 4, none⟩ (.int .i64 n)) := by
  obtain ⟨h1, h2, h3, h4⟩ := h.set 4 (.int .i64 n)
  exact ⟨⟨h.Bx, h1, (h3 0 (by decide)).trans h.c0, (h3 1 (by decide)).trans h.c1, (h3 2 (by decide)).trans h.c2, (h3 3 (by decide)).trans h.c3, World.cell?_setCell_same _ _ _ h.c4, (h3 5 (by decide)).trans h.c5, h2⟩, h4⟩
theorem SeqAt.setSt {B : Nat} {w : World} {x b : Nat} {t : ByteArray} {wd : Nat} {q : Sq} {a : Option Addr} {c : Nat} (h : SeqAt B w x b t wd q a c) (n : Nat) :
    SeqAt B (w.setCell ⟨x, 3, none⟩ (.int .i64 n)) x b t wd ⟨q.P, n, q.n⟩ a c ∧ OffS B (fun _ => false) (fun k => k = x) w (w.setCell ⟨x, 3, none⟩ (.int .i64 n)) := by
  obtain ⟨h1, h2, h3, h4⟩ := h.set 3 (.int .i64 n)
  exact ⟨⟨h.Bx, h1, (h3 0 (by decide)).trans h.c0, (h3 1 (by decide)).trans h.c1, (h3 2 (by decide)).trans h.c2, World.cell?_setCell_same _ _ _ h.c3, (h3 4 (by decide)).trans h.c4, (h3 5 (by decide)).trans h.c5, h2⟩, h4⟩
/-- its pages are in another row -/
theorem SeqAt.setP {B : Nat} {w : World} {x b : Nat} {t : ByteArray} {wd : Nat} {q : Sq} {a a' : Option Addr} {c c' : Nat} (h : SeqAt B w x b t wd q a c) (P : List Int) (hp : RowI B w a' P.length c' P) :
    SeqAt B (w.setCell ⟨x, 5, none⟩ (.slice a' P.length c')) x b t wd ⟨P, q.st, q.n⟩ a' c' ∧ OffS B (fun _ => false) (fun k => k = x) w (w.setCell ⟨x, 5, none⟩ (.slice a' P.length c')) := by
  obtain ⟨h1, h2, h3, h4⟩ := h.set 5 (.slice a' P.length c')
  refine ⟨⟨h.Bx, h1, (h3 0 (by decide)).trans h.c0, (h3 1 (by decide)).trans h.c1, (h3 2 (by decide)).trans h.c2, (h3 3 (by decide)).trans h.c3, (h3 4 (by decide)).trans h.c4, World.cell?_setCell_same _ _ _ h.c5, hp.offS h4 rfl (fun k hk e => ?_)⟩, h4⟩
  obtain ⟨_, m, hr⟩ := hp.block hk
  exact hr.ne h.top (by decide) e

/-- the row's cells, as the walk asks for them -/
theorem SeqAt.page {B : Nat} {w : World} {x b : Nat} {t : ByteArray} {wd : Nat} {q : Sq} {a : Option Addr} {c : Nat} (h : SeqAt B w x b t wd q a c) {i : Nat} (hi : i < q.P.length) : ∃ y, a = some y ∧ w.cell? (y.add i) = some (.int .i64 (q.P.getD i 0)) := by
  have hr := h.pg.reads
  obtain ⟨y, rfl⟩ := hr.some_ (by omega)
  exact ⟨y, rfl, hr.cell y rfl i hi⟩

end Go.Proofs.Ytgjjeggopeppfaa
