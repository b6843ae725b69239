/- The program's shelf as it lies in memory, and what single writes make of it. -/
import Derived.Test.YtfggkkhehaafcaaRows
import Derived.Test.YtfggkkhehaafcaaPages
import Derived.Test.YtfggkkhehaafcaaView
import Derived.Test.YtfggkkhehaafcaaOwn
import Derived.Test.YtfggkkhehaafcaaReadsP
import Derived.Test.YtfggkkhehaafcaaReadsQ
import Derived.Test.YtfggkkhehaafcaaLeast
import Derived.Test.YtfggkkhehaafcaaLays
import Derived.Test.YtfggkkhehaafcaaTurns
import Derived.Test.YtfggkkhehaafcaaNews
import Derived.Test.YtfggkkhehaafcaaGoods
import Derived.Test.YtfggkkhehaafcaaPlain
import Derived.Test.YtfggkkhehaafcaaLies
import Derived.Test.YtfggkkhehaafcaaFetch
import Derived.Test.YtfggkkhehaafcaaMapV
import Derived.Test.YtfggkkhehaafcaaShPlain
import Derived.Test.YtfggkkhehaafcaaShActs
import Derived.WalkKit
import Derived.ProofKit
import Derived.OpenShut
import Derived.Below
import Derived.WalkLawsBesides
import Derived.Deep.QuietTactic
import Derived.BigQuiet
import Derived.Maps.OwnSet
namespace Go.Proofs.Ytfggkkhehaafcaa
open Go.ChangeShapes Go.WideShapes Go.ChangeAt Go.RowKit
set_option linter.unusedVariables false
set_option linter.unusedSimpArgs false

/-- only blocks from B on of some types, or of a set, have been written, or are new -/
structure OffS (B : Nat) (T : TypeId → Bool) (S : Nat → Prop) (w w' : World) : Prop where
  os : w'.os = w.os
  tape : w'.tape = w.tape
  output : w'.output = w.output
  size : w.heap.size ≤ w'.heap.size
  block : ∀ k, k < w.heap.size → (k < B ∨ (¬ S k ∧ ∀ t, typeOf w k = some t → T t = false)) → w'.heap[k]? = w.heap[k]?

theorem Off.toS {B : Nat} {T : TypeId → Bool} {w w' : World} (h : Off B T w w') (S : Nat → Prop) : OffS B T S w w' :=
  ⟨h.os, h.tape, h.output, h.size, fun k hk hc => h.block k hk (hc.imp id fun x => x.2)⟩
theorem OffS.refl (B : Nat) (T : TypeId → Bool) (S : Nat → Prop) (w : World) : OffS B T S w w := (Off.refl B T w).toS S
theorem OffS.trans {B : Nat} {T : TypeId → Bool} {S S' : Nat → Prop} {w w' w'' : World} (h : OffS B T S w w') (k : OffS B T S' w' w'') (hS : ∀ i, S' i → S i ∨ w.heap.size ≤ i) : OffS B T S w w'' := by
  refine ⟨k.os.trans h.os, k.tape.trans h.tape, k.output.trans h.output, Nat.le_trans h.size k.size, fun i hi hc => ?_⟩
  have e := h.block i hi hc
  refine (k.block i (Nat.lt_of_lt_of_le hi h.size) ?_).trans e
  rcases hc with hc | hc
  · exact .inl hc
  · exact .inr ⟨fun x => (hS i x).elim hc.1 (fun y => by omega), fun t ht => hc.2 t (by simpa [typeOf, e] using ht)⟩
theorem OffS.mono {B : Nat} {T T' : TypeId → Bool} {S S' : Nat → Prop} {w w' : World} (h : OffS B T S w w') (hT : ∀ t, T' t = false → T t = false) (hS : ∀ i, S i → S' i) : OffS B T' S' w w' :=
  ⟨h.os, h.tape, h.output, h.size, fun k hk hc => h.block k hk (hc.imp id fun x => ⟨fun y => x.1 (hS k y), fun t ht => hT t (x.2 t ht)⟩)⟩
theorem OffS.drewN {B : Nat} {T : TypeId → Bool} {S : Nat → Prop} {w w' : World} (h : OffS B T S w w') (m : Nat) : OffS B T S w (w'.drewN m) := ⟨h.os, h.tape, h.output, h.size, h.block⟩
theorem OffS.below {B : Nat} {T : TypeId → Bool} {S : Nat → Prop} {w w' : World} (h : OffS B T S w w') (hB : B ≤ w.heap.size) : Below B w w' :=
  ⟨h.os, h.tape, h.output, h.size, fun k hk => h.block k (by omega) (.inl hk)⟩
theorem OffS.row {B : Nat} {T : TypeId → Bool} {S : Nat → Prop} {w w' : World} (h : OffS B T S w w') {t : TypeId} {g m : Nat} (r : Row t w g m) (hT : T t = false) (hS : ¬ S g) : w'.heap[g]? = w.heap[g]? :=
  h.block g r.lt (.inr ⟨hS, fun t' ht => by rw [r.type] at ht; injection ht with ht; subst ht; exact hT⟩)
theorem OffS.set {B : Nat} {T : TypeId → Bool} {S : Nat → Prop} {w : World} {g : Nat} (hB : B ≤ g) (hS : S g) (o : Nat) (v : Value) : OffS B T S w (w.setCell ⟨g, o, none⟩ v) := by
  refine ⟨rfl, rfl, rfl, by simp [World.setCell], fun k hk hc => Below.heap_setCell w _ v k fun e => ?_⟩
  have e' : k = g := e
  subst e'
  rcases hc with hc | hc
  · omega
  · exact hc.1 hS
theorem OffS.of_below {B : Nat} {T : TypeId → Bool} {S : Nat → Prop} {w w' : World} (h : Below w.heap.size w w') : OffS B T S w w' := (Off.of_below h).toS S

def blkOf (a : Option Addr) (k : Nat) : Prop := ∃ y, a = some y ∧ y.block = k

theorem own_keep {w w' : World} {B : Nat} {e : TypeId} {q : Nat} {a : Option Addr} {n c : Nat} {cs : List Value} (h : w.ownsRow B e q (.slice a n c) n cs) (hk : ∀ k, blkOf a k → w'.heap[k]? = w.heap[k]?) : w'.ownsRow B e q (.slice a n c) n cs := by
  refine ⟨h.1, ?_⟩
  rcases h.2 with h1 | ⟨g, cap, cur, h1, h2, h3, h4⟩
  · exact .inl h1
  · refine .inr ⟨g, cap, cur, h1, h2, (hk g ?_).trans h3, h4⟩
    simp only [Value.slice.injEq] at h1
    exact ⟨_, h1.1, rfl⟩
theorem own_blk {w : World} {B : Nat} {e : TypeId} {q : Nat} {a : Option Addr} {n c : Nat} {cs : List Value} (h : w.ownsRow B e q (.slice a n c) n cs) {k : Nat} (hk : blkOf a k) : B ≤ k ∧ ∃ m, Row e w k m := by
  obtain ⟨y, rfl, rfl⟩ := hk
  rcases h.2 with ⟨h1, _⟩ | ⟨g, cap, cur, h1, h2, h3, h4⟩
  · cases h1
  · simp only [Value.slice.injEq, Option.some.injEq] at h1
    obtain ⟨rfl, _, _⟩ := h1
    exact ⟨h2, _, cur, h3, rfl⟩
theorem RowI.keep {B : Nat} {w w' : World} {a : Option Addr} {l c : Nat} {zs : List Int} (h : RowI B w a l c zs) (hk : ∀ k, blkOf a k → w'.heap[k]? = w.heap[k]?) : RowI B w' a l c zs := ⟨h.len, own_keep h.own hk, h.wf⟩
theorem RowB.keep {B : Nat} {w w' : World} {a : Option Addr} {l c : Nat} {zs : List Int} (h : RowB B w a l c zs) (hk : ∀ k, blkOf a k → w'.heap[k]? = w.heap[k]?) : RowB B w' a l c zs := ⟨h.len, own_keep h.own hk, h.wf⟩

/-- a row of texts of the call's own -/
structure RowT (B : Nat) (w : World) (a : Option Addr) (l c : Nat) (ts : List ByteArray) : Prop where
  len : ts.length = l
  own : w.ownsRow B 9 1 (.slice a l c) l (ts.map Value.string)
theorem RowT.nil (B : Nat) (w : World) : RowT B w none 0 0 [] := ⟨rfl, World.ownsRow_nil _ _ _ _⟩
theorem RowT.keep {B : Nat} {w w' : World} {a : Option Addr} {l c : Nat} {ts : List ByteArray} (h : RowT B w a l c ts) (hk : ∀ k, blkOf a k → w'.heap[k]? = w.heap[k]?) : RowT B w' a l c ts := ⟨h.len, own_keep h.own hk⟩
theorem RowT.mono {B B' : Nat} {w : World} {a : Option Addr} {l c : Nat} {ts : List ByteArray} (h : RowT B w a l c ts) (hB : B' ≤ B) : RowT B' w a l c ts := by
  refine ⟨h.len, ⟨h.own.1, ?_⟩⟩
  rcases h.own.2 with h1 | ⟨g, cap, cur, h1, h2, h3⟩
  · exact .inl h1
  · exact .inr ⟨g, cap, cur, h1, Nat.le_trans hB h2, h3⟩
def noText : ByteArray := ⟨#[]⟩
theorem texts_at (ts : List ByteArray) (j : Nat) (h : j < ts.length) : (ts.map Value.string)[j]? = some (.string (ts.getD j noText)) := by simp [List.getD, h]

/-- the first n cells from a on are these texts -/
structure ReadT (w : World) (a : Option Addr) (n : Nat) (ts : List ByteArray) : Prop where
  len : ts.length = n
  max : n ≤ 9223372036854775807
  some_ : 0 < n → ∃ x, a = some x
  cell : ∀ x, a = some x → ∀ i, i < n → w.cell? (x.add i) = some (.string (ts.getD i noText))
theorem RowT.reads {B : Nat} {w : World} {a : Option Addr} {l c : Nat} {ts : List ByteArray} (h : RowT B w a l c ts) : ReadT w a l ts := by
  have hl := h.len
  rcases h.own.2 with ⟨h1, h2⟩ | ⟨g, cap, cur, h1, h2, h3, h4, h5, h6, h7⟩
  · subst h2
    simp only [Value.slice.injEq] at h1
    obtain ⟨rfl, _, _⟩ := h1
    exact ⟨hl, by omega, fun h => by omega, fun x hx => by cases hx⟩
  · simp only [Value.slice.injEq] at h1
    obtain ⟨rfl, _, rfl⟩ := h1
    refine ⟨hl, by unfold maxLen at h5; omega, fun _ => ⟨_, rfl⟩, fun x hx i hi => ?_⟩
    obtain rfl := Option.some.inj hx
    exact h.own.cells (g := g) rfl i _ (texts_at ts i (by omega))
theorem ReadT.below {w w' : World} {a : Option Addr} {n : Nat} {ts : List ByteArray} (h : ReadT w a n ts) (hb : Below w.heap.size w w') : ReadT w' a n ts :=
  ⟨h.len, h.max, h.some_, fun x hx i hi => by have c := h.cell x hx i hi; exact (hb.cell (World.block_lt_of_cell? w _ c)).trans c⟩
theorem RowT.capMax {B : Nat} {w : World} {a : Option Addr} {l c : Nat} {ts : List ByteArray} (h : RowT B w a l c ts) : l ≤ c ∧ c ≤ 9223372036854775807 ∧ (a = none → c = 0) := by
  rcases h.own.2 with ⟨h1, h2⟩ | ⟨g, cap, cur, h1, h2, h3, h4, h5, h6, h7⟩
  · simp only [Value.slice.injEq] at h1
    exact ⟨by omega, by omega, fun _ => by omega⟩
  · simp only [Value.slice.injEq] at h1
    obtain ⟨rfl, _, rfl⟩ := h1
    exact ⟨h4, by unfold maxLen at h5; omega, fun e => by cases e⟩

/-- weights on the program's shelf, in block k -/
structure LotAt (B : Nat) (w : World) (k : Nat) (it : It) : Prop where
  Bk : B ≤ k
  top : Row 80 w k 3
  c0 : ∃ a c, w.cell? ⟨k, 0, none⟩ = some (.slice a it.W.length c) ∧ RowB B w a it.W.length c it.W
  c1 : ∃ a c, w.cell? ⟨k, 1, none⟩ = some (.slice a it.P.length c) ∧ RowI B w a it.P.length c it.P
  c2 : w.cell? ⟨k, 2, none⟩ = some (.int .i64 (it.pins : Int))

def ptrOf (L : List It) (A : ByteArray → Nat) (n : ByteArray) : Value := match look L n with | none => .pointer none | some _ => .pointer (some ⟨A n, 0, none⟩)

/-- the program's shelf: its struct in block x, its map in block mb, its pool in block b; the order of pinning as O -/
structure ShAt (B : Nat) (w : World) (x mb b : Nat) (A : ByteArray → Nat) (a : Option Addr) (c : Nat) (O : List ByteArray) (L : List It) (N : Nat) : Prop where
  Bx : B ≤ x
  Bm : B ≤ mb
  top : Row 71 w x 3
  c0 : w.cell? ⟨x, 0, none⟩ = some (.pointer (some ⟨b, 0, none⟩))
  c1 : w.cell? ⟨x, 1, none⟩ = some (.map (some mb))
  c2 : w.cell? ⟨x, 2, none⟩ = some (.slice a O.length c)
  ord : RowT B w a O.length c O
  map : MapV w mb N (.pointer none) (ptrOf L A)
  lot : ∀ it ∈ L, LotAt B w (A it.nm) it
  inj : ∀ i ∈ L, ∀ j ∈ L, A i.nm = A j.nm → i.nm = j.nm

/-- what the program's shelf is made of, beside the order of pinning -/
def T14 (t : TypeId) : Bool := t == 71 || t == 80 || t == 59 || t == 3

theorem LotAt.keep {B : Nat} {w w' : World} {k : Nat} {it : It} (h : LotAt B w k it) (hk : ∀ i t, i < w.heap.size → typeOf w i = some t → (t = 80 ∨ t = 59 ∨ t = 3) → w'.heap[i]? = w.heap[i]?) : LotAt B w' k it := by
  have eb := hk k 80 h.top.lt h.top.type (.inl rfl)
  obtain ⟨a0, d0, h0, r0⟩ := h.c0
  obtain ⟨a1, d1, h1, r1⟩ := h.c1
  refine ⟨h.Bk, h.top.of_block eb, ⟨a0, d0, (cell_of_block eb 0).trans h0, r0.keep fun i hi => ?_⟩, ⟨a1, d1, (cell_of_block eb 1).trans h1, r1.keep fun i hi => ?_⟩, (cell_of_block eb 2).trans h.c2⟩
  · obtain ⟨_, m, r⟩ := own_blk r0.own hi
    exact hk i 59 r.lt r.type (.inr (.inl rfl))
  · obtain ⟨_, m, r⟩ := own_blk r1.own hi
    exact hk i 3 r.lt r.type (.inr (.inr rfl))

theorem ShAt.keep {B : Nat} {w w' : World} {x mb b : Nat} {A : ByteArray → Nat} {a : Option Addr} {c : Nat} {O : List ByteArray} {L : List It} {N : Nat} (h : ShAt B w x mb b A a c O L N)
    (hk : ∀ i t, i < w.heap.size → typeOf w i = some t → T14 t = true → w'.heap[i]? = w.heap[i]?) (hm : w'.heap[mb]? = w.heap[mb]?) (ho : ∀ i, blkOf a i → w'.heap[i]? = w.heap[i]?) : ShAt B w' x mb b A a c O L N := by
  have eb := hk x 71 h.top.lt h.top.type rfl
  exact ⟨h.Bx, h.Bm, h.top.of_block eb, (cell_of_block eb 0).trans h.c0, (cell_of_block eb 1).trans h.c1, (cell_of_block eb 2).trans h.c2, h.ord.keep ho, h.map.kept hm,
    fun it hi => (h.lot it hi).keep (fun i t hl ht hc => hk i t hl ht (by rcases hc with rfl | rfl | rfl <;> rfl)), h.inj⟩
theorem ShAt.off {B B' : Nat} {T : TypeId → Bool} {w w' : World} {x mb b : Nat} {A : ByteArray → Nat} {a : Option Addr} {c : Nat} {O : List ByteArray} {L : List It} {N : Nat} (h : ShAt B w x mb b A a c O L N) (o : Off B' T w w') (h1 : T 71 = false) (h2 : T 80 = false) (h3 : T 59 = false) (h4 : T 3 = false) (h5 : T 9 = false) : ShAt B w' x mb b A a c O L N := by
  refine h.keep (fun i t hi ht hT => o.block i hi (.inr fun t' ht' => ?_)) (o.block mb h.map.lt (.inr fun t ht => ?_)) (fun i hi => ?_)
  · rw [ht] at ht'
    obtain rfl := Option.some.inj ht'
    simp only [T14, Bool.or_eq_true, beq_iff_eq] at hT
    rcases hT with ((rfl | rfl) | rfl) | rfl <;> assumption
  · rw [h.map.type] at ht
    cases ht
  · obtain ⟨_, m, r⟩ := own_blk h.ord.own hi
    exact o.row r h5
theorem ShAt.below {B : Nat} {w w' : World} {x mb b : Nat} {A : ByteArray → Nat} {a : Option Addr} {c : Nat} {O : List ByteArray} {L : List It} {N : Nat} (h : ShAt B w x mb b A a c O L N) (o : Below w.heap.size w w') : ShAt B w' x mb b A a c O L N :=
  h.off (T := fun _ => false) (B' := 0) (Off.of_below o) rfl rfl rfl rfl rfl
theorem ShAt.drewN {B : Nat} {w : World} {x mb b : Nat} {A : ByteArray → Nat} {a : Option Addr} {c : Nat} {O : List ByteArray} {L : List It} {N : Nat} (h : ShAt B w x mb b A a c O L N) (m : Nat) : ShAt B (w.drewN m) x mb b A a c O L N := h.keep (fun _ _ _ _ _ => rfl) rfl (fun _ _ => rfl)
theorem ShAt.ordLt {B : Nat} {w : World} {x mb b : Nat} {A : ByteArray → Nat} {a : Option Addr} {c : Nat} {O : List ByteArray} {L : List It} {N : Nat} (h : ShAt B w x mb b A a c O L N) {k : Nat} (hk : blkOf a k) : B ≤ k ∧ k < w.heap.size := by
  obtain ⟨h1, m, r⟩ := own_blk h.ord.own hk
  exact ⟨h1, r.lt⟩

/-- another row is the order of pinning -/
theorem ShAt.setOrd {B : Nat} {w : World} {x mb b : Nat} {A : ByteArray → Nat} {a : Option Addr} {c : Nat} {O : List ByteArray} {L : List It} {N : Nat} (h : ShAt B w x mb b A a c O L N) {a' : Option Addr} {l' c' : Nat} {O' : List ByteArray} (hr : RowT B w a' l' c' O') :
    ShAt B (w.setCell ⟨x, 2, none⟩ (.slice a' l' c')) x mb b A a' c' O' L N := by
  have hl := hr.len
  have kb : ∀ i, i ≠ x → (w.setCell ⟨x, 2, none⟩ (.slice a' l' c')).heap[i]? = w.heap[i]? := fun i hi => Below.heap_setCell w ⟨x, 2, none⟩ _ i hi
  have hx : ∀ {t m g}, Row t w g m → t ≠ 71 → g ≠ x := fun r ht => r.ne h.top ht
  subst hl
  refine ⟨h.Bx, h.Bm, h.top.set 2 _, (World.cell?_setCell_other _ _ _ _ (by simp)).trans h.c0, (World.cell?_setCell_other _ _ _ _ (by simp)).trans h.c1, World.cell?_setCell_same _ _ _ h.c2, hr.keep fun i hi => ?_, h.map.kept (kb mb (h.map.notRow h.top).symm), fun it hi => (h.lot it hi).keep fun i t hl ht hc => kb i ?_, h.inj⟩
  · obtain ⟨_, m, r⟩ := own_blk hr.own hi
    exact kb i (hx r (by decide))
  · rintro rfl
    rw [h.top.type] at ht
    obtain rfl := Option.some.inj ht
    revert hc
    decide

/-- a cell of a lot is another -/
theorem ShAt.setLot {B : Nat} {w : World} {x mb b : Nat} {A : ByteArray → Nat} {a : Option Addr} {c : Nat} {O : List ByteArray} {L : List It} {N : Nat} (h : ShAt B w x mb b A a c O L N) (hn : Nd L) {it : It} (hi : it ∈ L) (j : Nat) (v : Value) (f : It → It) (hf : ∀ y, (f y).nm = y.nm)
    (hl : LotAt B (w.setCell ⟨A it.nm, j, none⟩ v) (A it.nm) (f it)) : ShAt B (w.setCell ⟨A it.nm, j, none⟩ v) x mb b A a c O (chg f it.nm L) N := by
  have h80 := (h.lot it hi).top
  have kb : ∀ i, i ≠ A it.nm → (w.setCell ⟨A it.nm, j, none⟩ v).heap[i]? = w.heap[i]? := fun i hi => Below.heap_setCell w ⟨A it.nm, j, none⟩ _ i hi
  have eb := kb x (h.top.ne h80 (by decide))
  refine ⟨h.Bx, h.Bm, h.top.of_block eb, (cell_of_block eb 0).trans h.c0, (cell_of_block eb 1).trans h.c1, (cell_of_block eb 2).trans h.c2, h.ord.keep fun i hi => ?_, ?_, fun y hy => ?_, fun i hi j hj e => ?_⟩
  · obtain ⟨_, m, r⟩ := own_blk h.ord.own hi
    exact kb i (r.ne h80 (by decide))
  · have e : ptrOf (chg f it.nm L) A = ptrOf L A := by
      funext n
      unfold ptrOf
      rw [look_chg f hf]
      by_cases c : n = it.nm
      · rw [if_pos c, c, look_mem hn hi]
        rfl
      · rw [if_neg c]
    rw [e]
    exact h.map.kept (kb mb (h.map.notRow h80).symm)
  · obtain ⟨u, hu, ⟨c, rfl⟩ | ⟨c, rfl⟩⟩ := chg_mem _ _ hy
    · have e := mem_same hn hu hi c
      subst e
      rw [hf]
      exact hl
    · have hne : A y.nm ≠ A it.nm := fun e => c (h.inj y hu it hi e)
      have hy := h.lot y hu
      have e80 := kb _ hne
      obtain ⟨a0, d0, h0, r0⟩ := hy.c0
      obtain ⟨a1, d1, h1, r1⟩ := hy.c1
      refine ⟨hy.Bk, hy.top.of_block e80, ⟨a0, d0, (cell_of_block e80 0).trans h0, r0.keep fun i hi => ?_⟩, ⟨a1, d1, (cell_of_block e80 1).trans h1, r1.keep fun i hi => ?_⟩, (cell_of_block e80 2).trans hy.c2⟩
      · obtain ⟨_, m, r⟩ := own_blk r0.own hi
        exact kb i (r.ne h80 (by decide))
      · obtain ⟨_, m, r⟩ := own_blk r1.own hi
        exact kb i (r.ne h80 (by decide))
  · obtain ⟨u, hu, e1⟩ := chg_mem _ _ hi
    obtain ⟨v, hv, e2⟩ := chg_mem _ _ hj
    have n1 : i.nm = u.nm := by rcases e1 with ⟨_, rfl⟩ | ⟨_, rfl⟩; exact hf u; rfl
    have n2 : j.nm = v.nm := by rcases e2 with ⟨_, rfl⟩ | ⟨_, rfl⟩; exact hf v; rfl
    rw [n1, n2] at e ⊢
    exact h.inj u hu v hv e
theorem LotAt.setPins {B : Nat} {w : World} {k : Nat} {it : It} (h : LotAt B w k it) (p : Nat) : LotAt B (w.setCell ⟨k, 2, none⟩ (.int .i64 (p : Int))) k { it with pins := p } := by
  have kb : ∀ i, i ≠ k → (w.setCell ⟨k, 2, none⟩ (.int .i64 (p : Int))).heap[i]? = w.heap[i]? := fun i hi => Below.heap_setCell w ⟨k, 2, none⟩ _ i hi
  obtain ⟨a0, d0, h0, r0⟩ := h.c0
  obtain ⟨a1, d1, h1, r1⟩ := h.c1
  refine ⟨h.Bk, h.top.set 2 _, ⟨a0, d0, (World.cell?_setCell_other _ _ _ _ (by simp)).trans h0, r0.keep fun i hi => ?_⟩, ⟨a1, d1, (World.cell?_setCell_other _ _ _ _ (by simp)).trans h1, r1.keep fun i hi => ?_⟩, World.cell?_setCell_same _ _ _ h.c2⟩
  · obtain ⟨_, m, r⟩ := own_blk r0.own hi
    exact kb i (r.ne h.top (by decide))
  · obtain ⟨_, m, r⟩ := own_blk r1.own hi
    exact kb i (r.ne h.top (by decide))
theorem LotAt.setPages {B : Nat} {w : World} {k : Nat} {it : It} (h : LotAt B w k it) {a : Option Addr} {l c : Nat} {P : List Int} (hr : RowI B w a l c P) : LotAt B (w.setCell ⟨k, 1, none⟩ (.slice a l c)) k { it with P := P } := by
  have hl := hr.len
  subst hl
  have kb : ∀ i, i ≠ k → (w.setCell ⟨k, 1, none⟩ (.slice a P.length c)).heap[i]? = w.heap[i]? := fun i hi => Below.heap_setCell w ⟨k, 1, none⟩ _ i hi
  obtain ⟨a0, d0, h0, r0⟩ := h.c0
  obtain ⟨a1, d1, h1, r1⟩ := h.c1
  refine ⟨h.Bk, h.top.set 1 _, ⟨a0, d0, (World.cell?_setCell_other _ _ _ _ (by simp)).trans h0, r0.keep fun i hi => ?_⟩, ⟨a, c, World.cell?_setCell_same _ _ _ h1, hr.keep fun i hi => ?_⟩, (World.cell?_setCell_other _ _ _ _ (by simp)).trans h.c2⟩
  · obtain ⟨_, m, r⟩ := own_blk r0.own hi
    exact kb i (r.ne h.top (by decide))
  · obtain ⟨_, m, r⟩ := own_blk hr.own hi
    exact kb i (r.ne h.top (by decide))

/-- a new one in a block of its own, its name in the map -/
theorem ShAt.add {B : Nat} {w w' : World} {x mb b : Nat} {A : ByteArray → Nat} {a : Option Addr} {c : Nat} {O : List ByteArray} {L : List It} {N : Nat} (h : ShAt B w x mb b A a c O L N) (it : It) (k : Nat) (hnew : ∀ y ∈ L, y.nm ≠ it.nm) (hk : ∀ y ∈ L, A y.nm ≠ k) (hl : LotAt B w k it)
    (hm : MapV w' mb (N + 1) (.pointer none) (updT (ptrOf L A) it.nm (.pointer (some ⟨k, 0, none⟩)))) (ht : w.mapTurned w' mb) : ShAt B w' x mb b (updT A it.nm k) a c O (L ++ [it]) (N + 1) := by
  have kb : ∀ i, i < w.heap.size → i ≠ mb → w'.heap[i]? = w.heap[i]? := fun i hi hne => ht.grown.block i hi (by simpa using hne)
  have eb := kb x h.top.lt (h.map.notRow h.top)
  have kt : ∀ i t, i < w.heap.size → typeOf w i = some t → w'.heap[i]? = w.heap[i]? := fun i t hi hty => kb i hi (by rintro rfl; rw [h.map.type] at hty; cases hty)
  have nA : ∀ y ∈ L, updT A it.nm k y.nm = A y.nm := fun y hy => updT_other _ _ _ _ (hnew y hy)
  refine ⟨h.Bx, h.Bm, h.top.of_block eb, (cell_of_block eb 0).trans h.c0, (cell_of_block eb 1).trans h.c1, (cell_of_block eb 2).trans h.c2, h.ord.keep fun i hi => ?_, ?_, fun y hy => ?_, fun i hi j hj e => ?_⟩
  · obtain ⟨_, m, r⟩ := own_blk h.ord.own hi
    exact kt i _ r.lt r.type
  · have e : ptrOf (L ++ [it]) (updT A it.nm k) = updT (ptrOf L A) it.nm (.pointer (some ⟨k, 0, none⟩)) := by
      funext n
      unfold ptrOf
      rw [look_snoc L it n hnew]
      by_cases c : n = it.nm
      · subst c
        rw [if_pos rfl, updT_same]
        simp only [updT_same]
      · rw [if_neg c, updT_other _ _ _ _ c, updT_other _ _ _ _ c]
    rw [e]
    exact hm
  · rcases List.mem_append.1 hy with hy | hy
    · rw [nA y hy]
      exact (h.lot y hy).keep fun i t hi ht _ => kt i t hi ht
    · rw [List.mem_singleton.1 hy, updT_same]
      exact hl.keep fun i t hi ht _ => kt i t hi ht
  · rcases List.mem_append.1 hi with hi | hi
    · rcases List.mem_append.1 hj with hj | hj
      · rw [nA i hi, nA j hj] at e
        exact h.inj i hi j hj e
      · rw [nA i hi, List.mem_singleton.1 hj, updT_same] at e
        exact absurd e (hk i hi)
    · rcases List.mem_append.1 hj with hj | hj
      · rw [nA j hj, List.mem_singleton.1 hi, updT_same] at e
        exact absurd e.symm (hk j hj)
      · rw [List.mem_singleton.1 hi, List.mem_singleton.1 hj]

/-- one is taken out of the map -/
theorem ShAt.del {B : Nat} {w w' : World} {x mb b : Nat} {A : ByteArray → Nat} {a : Option Addr} {c : Nat} {O : List ByteArray} {L : List It} {N : Nat} (h : ShAt B w x mb b A a c O L N) (n : ByteArray)
    (hm : MapV w' mb N (.pointer none) (updT (ptrOf L A) n (.pointer none))) (ht : w.mapTurned w' mb) : ShAt B w' x mb b A a c O (rem L n) N := by
  have kb : ∀ i, i < w.heap.size → i ≠ mb → w'.heap[i]? = w.heap[i]? := fun i hi hne => ht.grown.block i hi (by simpa using hne)
  have eb := kb x h.top.lt (h.map.notRow h.top)
  have kt : ∀ i t, i < w.heap.size → typeOf w i = some t → w'.heap[i]? = w.heap[i]? := fun i t hi hty => kb i hi (by rintro rfl; rw [h.map.type] at hty; cases hty)
  refine ⟨h.Bx, h.Bm, h.top.of_block eb, (cell_of_block eb 0).trans h.c0, (cell_of_block eb 1).trans h.c1, (cell_of_block eb 2).trans h.c2, h.ord.keep fun i hi => ?_, ?_, fun y hy => ?_, fun i hi j hj e => h.inj i (rem_mem.1 hi).1 j (rem_mem.1 hj).1 e⟩
  · obtain ⟨_, m, r⟩ := own_blk h.ord.own hi
    exact kt i _ r.lt r.type
  · have e : ptrOf (rem L n) A = updT (ptrOf L A) n (.pointer none) := by
      funext u
      unfold ptrOf
      rw [look_rem]
      by_cases c : u = n
      · rw [if_pos c, c, updT_same]
      · rw [if_neg c, updT_other _ _ _ _ c]
    rw [e]
    exact hm
  · exact (h.lot y (rem_mem.1 hy).1).keep fun i t hi ht _ => kt i t hi ht

/-- weights are what they were, in another order -/
theorem ShAt.perm {B : Nat} {w : World} {x mb b : Nat} {A : ByteArray → Nat} {a : Option Addr} {c : Nat} {O : List ByteArray} {L L' : List It} {N : Nat} (h : ShAt B w x mb b A a c O L N) (hl : ∀ n, (look L' n).isSome = (look L n).isSome) (hs : ∀ y ∈ L', ∃ u ∈ L, u.nm = y.nm ∧ u.W = y.W ∧ u.P = y.P ∧ u.pins = y.pins) : ShAt B w x mb b A a c O L' N := by
  refine ⟨h.Bx, h.Bm, h.top, h.c0, h.c1, h.c2, h.ord, ?_, fun y hy => ?_, fun i hi j hj e => ?_⟩
  · have e : ptrOf L' A = ptrOf L A := by
      funext n
      have := hl n
      unfold ptrOf
      cases e1 : look L' n <;> cases e2 : look L n <;> simp_all
    rw [e]
    exact h.map
  · obtain ⟨u, hu, e1, e2, e3, e4⟩ := hs y hy
    have q := h.lot u hu
    rw [e1] at q
    obtain ⟨q1, q2, q3, q4, q5⟩ := q
    rw [e2] at q3
    rw [e3] at q4
    rw [e4] at q5
    exact ⟨q1, q2, q3, q4, q5⟩
  · obtain ⟨u, hu, e1, _⟩ := hs i hi
    obtain ⟨v, hv, e2, _⟩ := hs j hj
    rw [← e1, ← e2] at e ⊢
    exact h.inj u hu v hv e

end Go.Proofs.Ytfggkkhehaafcaa
