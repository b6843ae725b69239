/- Texts put together: Seqs, SeqAt. -/
import Derived.Test.YtgjjeggopeppfaaRows
import Derived.Test.YtgjjeggopeppfaaPages
import Derived.Test.YtgjjeggopeppfaaReadsB
import Derived.Test.YtgjjeggopeppfaaLays
import Derived.Test.YtgjjeggopeppfaaTurns
import Derived.WalkKit
import Derived.ProofKit
import Derived.OpenShut
import Derived.Below
import Derived.WalkLawsBesides
import Derived.Deep.QuietTactic
import Derived.BigQuiet
import Derived.Test.YtgjjeggopeppfaaBasis
import Derived.Test.YtgjjeggopeppfaaLeast
namespace Go.Proofs.Ytgjjeggopeppfaa

/- Sequences of rows in pages as plain values: what each act makes of them and of the pool. -/
section
open Go.ChangeShapes Go.WideShapes Go.ChangeAt Go.RowKit
set_option linter.unusedVariables false

/-- a sequence: its pages, the number of the first row of the first page, how many rows there were -/
structure Sq where
  P : List Int
  st : Nat
  n : Nat

/-- does the next row go into a page that is there? -/
def fitB (wd : Nat) (q : Sq) : Bool := decide ((q.n : Int) - q.st < (q.P.length : Int) * ((32 / wd : Nat) : Int))
def lastZ (P : List Int) : Int := P.getD (P.length - 1) 0
def needB (wd : Nat) (s : Pl) (q : Sq) : Bool := !(fitB wd q && decide (owZ s (lastZ q.P) ≤ 1))
def needV (wd : Nat) (s : Pl) (q : Sq) : Int := if needB wd s q = true then 1 else 0

/-- a page's cells are copied into another -/
def copyTo (s : Pl) (x y : Int) : Nat → Pl
  | 0 => s
  | k + 1 => putS (copyTo s x y k) y k (getV (copyTo s x y k) x k)
/-- a row's numbers are laid one behind the other -/
def rowTo (s : Pl) (z c : Int) (zs : List Int) : Nat → Pl
  | 0 => s
  | k + 1 => putS (rowTo s z c zs k) z (c + k) (zs.getD k 0)

def roomE (wd : Nat) (t : ByteArray) (s : Pl) (q : Sq) : Int := if needB wd s q = true then takeE s t 1 else 0
def takenZ (s : Pl) (t : ByteArray) : Int := (takeR s t 1).getD 0 0
def roomS (wd : Nat) (t : ByteArray) (s : Pl) (q : Sq) : Pl :=
  if needB wd s q = true ∧ takeE s t 1 = 0 then (if fitB wd q = true then drS (copyTo (takeS s t 1) (lastZ q.P) (takenZ s t) 32) (lastZ q.P) else takeS s t 1) else s
def roomP (wd : Nat) (t : ByteArray) (s : Pl) (q : Sq) : List Int :=
  if needB wd s q = true ∧ takeE s t 1 = 0 then (if fitB wd q = true then q.P.set (q.P.length - 1) (takenZ s t) else q.P ++ [takenZ s t]) else q.P
def appE (wd : Nat) (t : ByteArray) (s : Pl) (q : Sq) (zs : List Int) : Int := if zs.length ≠ wd then 21 else roomE wd t s q
def pageZ (wd : Nat) (P : List Int) (st i : Nat) : Int := P.getD ((i - st) / (32 / wd)) 0
def cellN (wd : Nat) (st i : Nat) : Nat := (i - st) % (32 / wd) * wd
def appS (wd : Nat) (t : ByteArray) (s : Pl) (q : Sq) (zs : List Int) : Pl :=
  if appE wd t s q zs = 0 then rowTo (roomS wd t s q) (pageZ wd (roomP wd t s q) q.st q.n) (cellN wd q.st q.n) zs wd else s
def appQ (wd : Nat) (t : ByteArray) (s : Pl) (q : Sq) (zs : List Int) : Sq :=
  if appE wd t s q zs = 0 then ⟨roomP wd t s q, q.st, q.n + 1⟩ else q

def rowE (q : Sq) (i : Int) : Int := if i < q.st ∨ (q.n : Int) ≤ i then 25 else 0
def rowV (wd : Nat) (s : Pl) (q : Sq) (i : Int) : List Int :=
  if rowE q i = 0 then (List.range wd).map fun (k : Nat) => getV s (pageZ wd q.P q.st i.toNat) (((cellN wd q.st i.toNat : Nat) : Int) + (k : Int)) else []
def forkS (s : Pl) (q : Sq) : Pl := q.P.foldl shS s
def keepN (wd : Nat) (q : Sq) (k : Int) : Nat := (((q.n : Int) - max k 0).toNat - q.st) / (32 / wd)
def keepS (wd : Nat) (s : Pl) (q : Sq) (k : Int) : Pl := (q.P.take (keepN wd q k)).foldl drS s
def keepQ (wd : Nat) (q : Sq) (k : Int) : Sq := ⟨q.P.drop (keepN wd q k), q.st + keepN wd q k * (32 / wd), q.n⟩
def endS (s : Pl) (q : Sq) : Pl := q.P.foldl drS s
def endQ (q : Sq) : Sq := ⟨[], q.n, q.n⟩

/-- a sequence that is as it should be -/
structure SqOk (wd : Nat) (q : Sq) : Prop where
  w0 : 1 ≤ wd
  w1 : wd ≤ 32
  st : q.st ≤ q.n
  few : q.n ≤ 1000
  hi : q.n - q.st ≤ q.P.length * (32 / wd)
  lo : q.P.length * (32 / wd) < q.n - q.st + 32 / wd

theorem rr_pos {wd : Nat} (h0 : 1 ≤ wd) (h1 : wd ≤ 32) : 1 ≤ 32 / wd := Nat.div_pos h1 h0
theorem rr_le (wd : Nat) : 32 / wd ≤ 32 := Nat.div_le_self _ _
theorem rr_mul (wd : Nat) : 32 / wd * wd ≤ 32 := Nat.div_mul_le_self 32 wd
theorem SqOk.rr {wd : Nat} {q : Sq} (h : SqOk wd q) : 1 ≤ 32 / wd := rr_pos h.w0 h.w1
theorem SqOk.len {wd : Nat} {q : Sq} (h : SqOk wd q) : q.P.length ≤ q.n := by
  have h1 := h.lo
  have h2 := h.rr
  have h3 : q.P.length * 1 ≤ q.P.length * (32 / wd) := Nat.mul_le_mul_left _ h2
  by_cases e : q.P.length ≤ q.n
  · exact e
  · exfalso
    obtain ⟨d, hd⟩ : ∃ d, q.P.length = q.n + 1 + d := ⟨q.P.length - q.n - 1, by omega⟩
    rw [hd] at h1
    generalize 32 / wd = r at h1 h2
    have : (q.n + 1 + d) * r = q.n * r + r + d * r := by rw [Nat.add_mul, Nat.add_mul, Nat.one_mul]
    have h4 : q.n * 1 ≤ q.n * r := Nat.mul_le_mul_left _ h2
    omega
theorem fit_iff {wd : Nat} {q : Sq} (h : SqOk wd q) : fitB wd q = true ↔ q.n - q.st < q.P.length * (32 / wd) := by
  unfold fitB
  rw [decide_eq_true_eq, ← Int.natCast_mul]
  have := h.st
  omega
theorem fit_no {wd : Nat} {q : Sq} (h : SqOk wd q) (hf : fitB wd q = false) : q.n - q.st = q.P.length * (32 / wd) := by
  have h1 := h.hi
  have : ¬ fitB wd q = true := by simp [hf]
  rw [fit_iff h] at this
  omega
theorem fit_len {wd : Nat} {q : Sq} (h : SqOk wd q) (hf : fitB wd q = true) : 0 < q.P.length := by
  rw [fit_iff h] at hf
  by_cases e : q.P.length = 0
  · rw [e] at hf; omega
  · omega
/-- the row's page is there -/
theorem page_lt {wd : Nat} {q : Sq} (h : SqOk wd q) {i : Nat} (h0 : q.st ≤ i) (hi : i < q.n) : (i - q.st) / (32 / wd) < q.P.length := by
  have h1 := h.hi
  have h2 := h.rr
  rw [Nat.div_lt_iff_lt_mul (by omega)]
  omega
theorem cell_lt {wd : Nat} (h0 : 1 ≤ wd) (h1 : wd ≤ 32) (st i k : Nat) (hk : k < wd) : cellN wd st i + k < 32 := by
  have hr := rr_pos h0 h1
  have hm := rr_mul wd
  have hlt : (i - st) % (32 / wd) < 32 / wd := Nat.mod_lt _ (by omega)
  unfold cellN
  generalize (i - st) % (32 / wd) = m at hlt
  generalize 32 / wd = r at hm hlt
  have : (m + 1) * wd ≤ r * wd := Nat.mul_le_mul_right _ hlt
  rw [Nat.add_mul, Nat.one_mul] at this
  omega

/-- a sequence goes on being as it should be -/
theorem roomP_len {wd : Nat} {t : ByteArray} {s : Pl} {q : Sq} (h : SqOk wd q) : (roomP wd t s q).length = if needB wd s q = true ∧ takeE s t 1 = 0 ∧ fitB wd q = false then q.P.length + 1 else q.P.length := by
  unfold roomP
  by_cases h1 : needB wd s q = true ∧ takeE s t 1 = 0
  · rw [if_pos h1]
    by_cases h2 : fitB wd q = true
    · rw [if_pos h2, if_neg (fun x => by simp [h2] at x), List.length_set]
    · rw [if_neg h2, if_pos ⟨h1.1, h1.2, by simpa using h2⟩, List.length_append]; rfl
  · rw [if_neg h1, if_neg (fun x => h1 ⟨x.1, x.2.1⟩)]
theorem appE_zero {wd : Nat} {t : ByteArray} {s : Pl} {q : Sq} {zs : List Int} (h : appE wd t s q zs = 0) : zs.length = wd ∧ roomE wd t s q = 0 := by
  unfold appE at h
  split at h
  · omega
  · rename_i e; exact ⟨by omega, h⟩
theorem roomE_zero {wd : Nat} {t : ByteArray} {s : Pl} {q : Sq} (h : roomE wd t s q = 0) : needB wd s q = true → takeE s t 1 = 0 := by
  unfold roomE at h
  intro e
  rwa [if_pos e] at h
theorem need_of_fit {wd : Nat} {s : Pl} {q : Sq} (h : fitB wd q = false) : needB wd s q = true := by simp [needB, h]
/-- behind makeRoom the next row's page is there -/
theorem room_lt {wd : Nat} {t : ByteArray} {s : Pl} {q : Sq} (h : SqOk wd q) (h0 : roomE wd t s q = 0) : q.n - q.st < (roomP wd t s q).length * (32 / wd) ∧ (roomP wd t s q).length * (32 / wd) < q.n - q.st + 1 + 32 / wd := by
  rw [roomP_len h]
  have hr := h.rr
  by_cases hf : fitB wd q = true
  · rw [if_neg (fun x => by simp [hf] at x)]
    exact ⟨(fit_iff h).1 hf, by have := h.lo; omega⟩
  · have hf' : fitB wd q = false := by simpa using hf
    have hn := need_of_fit (s := s) hf'
    rw [if_pos ⟨hn, roomE_zero h0 hn, hf'⟩, Nat.add_mul, Nat.one_mul, fit_no h hf']
    omega
theorem SqOk.app {wd : Nat} {t : ByteArray} {s : Pl} {q : Sq} {zs : List Int} (h : SqOk wd q) (hf : q.n < 1000) : SqOk wd (appQ wd t s q zs) := by
  unfold appQ
  split
  · rename_i h0
    obtain ⟨h1, h2⟩ := room_lt h (appE_zero h0).2
    have := h.st
    exact ⟨h.w0, h.w1, by show q.st ≤ q.n + 1; omega, hf, by show q.n + 1 - q.st ≤ (roomP wd t s q).length * (32 / wd); omega, by show (roomP wd t s q).length * (32 / wd) < q.n + 1 - q.st + 32 / wd; omega⟩
  · exact h
theorem keepN_le {wd : Nat} {q : Sq} (h : SqOk wd q) (k : Int) : keepN wd q k * (32 / wd) ≤ q.n - q.st ∧ keepN wd q k ≤ q.P.length := by
  have hr := h.rr
  have h1 : keepN wd q k * (32 / wd) ≤ q.n - q.st := by
    unfold keepN
    refine Nat.le_trans (Nat.div_mul_le_self _ _) ?_
    omega
  refine ⟨h1, ?_⟩
  have h2 := h.hi
  exact Nat.le_of_mul_le_mul_right (Nat.le_trans h1 h2) hr
theorem SqOk.keep {wd : Nat} {q : Sq} (h : SqOk wd q) (k : Int) : SqOk wd (keepQ wd q k) := by
  obtain ⟨h1, h2⟩ := keepN_le h k
  have h3 := h.hi
  have h4 := h.lo
  have h5 := h.st
  refine ⟨h.w0, h.w1, ?_, h.few, ?_, ?_⟩
  · show q.st + _ ≤ q.n
    omega
  · show q.n - (q.st + _) ≤ (q.P.drop _).length * _
    rw [List.length_drop, Nat.sub_mul]
    omega
  · show (q.P.drop _).length * _ < q.n - (q.st + _) + _
    rw [List.length_drop, Nat.sub_mul]
    omega
theorem SqOk.end_ {wd : Nat} {q : Sq} (h : SqOk wd q) : SqOk wd (endQ q) := ⟨h.w0, h.w1, Nat.le_refl _, h.few, by simp [endQ], by show 0 * _ < _; rw [Nat.zero_mul]; have := h.rr; omega⟩
/-- one page more is let go of as long as its rows are all ahead -/
theorem keep_go {wd : Nat} {q : Sq} (h : SqOk wd q) (k : Int) (g : Nat) : g < keepN wd q k ↔ (q.st : Int) + g * ((32 / wd : Nat) : Int) + ((32 / wd : Nat) : Int) ≤ (q.n : Int) - max k 0 := by
  have hr := h.rr
  unfold keepN
  generalize 32 / wd = r at hr
  rw [← Nat.succ_le_iff, Nat.le_div_iff_mul_le (by omega), Nat.succ_mul, ← Int.natCast_mul]
  omega
end

/- Sequences of the program as they lie in memory; what a change of one leaves as it was. -/
section
open Go.ChangeShapes Go.WideShapes Go.ChangeAt Go.RowKit
set_option linter.unusedVariables false

/-- only blocks from B on of some types, or of a set, have been written, or are new -/
structure OffS (B : Nat) (T : TypeId → Bool) (S : Nat → Prop) (w w' : World) : Prop where
  os : w'.os = w.os
  tape : w'.tape = w.tape
  output : w'.output = w.output
  size : w.heap.size ≤ w'.heap.size
  block : ∀ k, k < w.heap.size → (k < B ∨ (¬ S k ∧ ∀ t, typeOf w k = some t → T t = false)) → w'.heap[k]? = w.heap[k]?

theorem Off.toS {B : Nat} {T : TypeId → Bool} {w w' : World} (h : Off B T w w') (S : Nat → Prop) : OffS B T S w w' :=
  ⟨h.os, h.tape, h.output, h.size, fun k hk hc => h.block k hk (hc.imp id fun x => x.2)⟩
theorem OffS.refl (B : Nat) (T : TypeId → Bool) (S : Nat → Prop) (w : World) : OffS B T S w w := (Off.refl B T w).toS S
theorem OffS.trans {B : Nat} {T : TypeId → Bool} {S S' : Nat → Prop} {w w' w'' : World} (h : OffS B T S w w') (k : OffS B T S' w' w'') (hS : ∀ i, S' i → S i ∨ w.heap.size ≤ i) : OffS B T S w w'' := by
  refine ⟨k.os.trans h.os, k.tape.trans h.tape, k.output.trans h.output, Nat.le_trans h.size k.size, fun i hi hc => ?_⟩
  have e := h.block i hi hc
  refine (k.block i (Nat.lt_of_lt_of_le hi h.size) ?_).trans e
  rcases hc with hc | hc
  · exact .inl hc
  · exact .inr ⟨fun x => (hS i x).elim hc.1 (fun y => by omega), fun t ht => hc.2 t (by simpa [typeOf, e] using ht)⟩
theorem OffS.mono {B : Nat} {T T' : TypeId → Bool} {S S' : Nat → Prop} {w w' : World} (h : OffS B T S w w') (hT : ∀ t, T' t = false → T t = false) (hS : ∀ i, S i → S' i) : OffS B T' S' w w' :=
  ⟨h.os, h.tape, h.output, h.size, fun k hk hc => h.block k hk (hc.imp id fun x => ⟨fun y => x.1 (hS k y), fun t ht => hT t (x.2 t ht)⟩)⟩
theorem OffS.drewN {B : Nat} {T : TypeId → Bool} {S : Nat → Prop} {w w' : World} (h : OffS B T S w w') (m : Nat) : OffS B T S w (w'.drewN m) := ⟨h.os, h.tape, h.output, h.size, h.block⟩
theorem OffS.below {B : Nat} {T : TypeId → Bool} {S : Nat → Prop} {w w' : World} (h : OffS B T S w w') (hB : B ≤ w.heap.size) : Below B w w' :=
  ⟨h.os, h.tape, h.output, h.size, fun k hk => h.block k (by omega) (.inl hk)⟩
theorem OffS.row {B : Nat} {T : TypeId → Bool} {S : Nat → Prop} {w w' : World} (h : OffS B T S w w') {t : TypeId} {g m : Nat} (r : Row t w g m) (hT : T t = false) (hS : ¬ S g) : w'.heap[g]? = w.heap[g]? :=
  h.block g r.lt (.inr ⟨hS, fun t' ht => by rw [r.type] at ht; injection ht with ht; subst ht; exact hT⟩)
theorem OffS.set {B : Nat} {T : TypeId → Bool} {S : Nat → Prop} {w : World} {g : Nat} (hB : B ≤ g) (hS : S g) (o : Nat) (v : Value) : OffS B T S w (w.setCell ⟨g, o, none⟩ v) := by
  refine ⟨rfl, rfl, rfl, by simp [World.setCell], fun k hk hc => Below.heap_setCell w _ v k fun e => ?_⟩
  have e' : k = g := e
  subst e'
  rcases hc with hc | hc
  · omega
  · exact hc.1 hS
theorem OffS.of_below {B : Nat} {T : TypeId → Bool} {S : Nat → Prop} {w w' : World} (h : Below w.heap.size w w') : OffS B T S w w' := (Off.of_below h).toS S

def blkOf (a : Option Addr) (k : Nat) : Prop := ∃ y, a = some y ∧ y.block = k
/-- what a sequence itself lies in: its struct, its row of pages -/
def Own (x : Nat) (a : Option Addr) (k : Nat) : Prop := k = x ∨ blkOf a k

theorem RowI.block {B : Nat} {w : World} {a : Option Addr} {l c : Nat} {zs : List Int} (h : RowI B w a l c zs) {k : Nat} (hk : blkOf a k) : B ≤ k ∧ ∃ m, Row 3 w k m := by
  obtain ⟨y, rfl, rfl⟩ := hk
  rcases h.own.2 with ⟨h1, _⟩ | ⟨g, cap, cur, h1, h2, h3, h4⟩
  · cases h1
  · simp only [Value.slice.injEq, Option.some.injEq] at h1
    obtain ⟨rfl, _, _⟩ := h1
    exact ⟨h2, _, cur, h3, rfl⟩
theorem RowI.offS {B B' : Nat} {T : TypeId → Bool} {S : Nat → Prop} {w w' : World} {a : Option Addr} {l c : Nat} {zs : List Int} (h : RowI B w a l c zs) (o : OffS B' T S w w') (hT : T 3 = false) (hS : ∀ k, blkOf a k → ¬ S k) : RowI B w' a l c zs := by
  refine ⟨h.len, ⟨h.own.1, ?_⟩, h.wf⟩
  rcases h.own.2 with h1 | ⟨g, cap, cur, h1, h2, h3, h4⟩
  · exact .inl h1
  · refine .inr ⟨g, cap, cur, h1, h2, (o.row (t := 3) (g := g) (m := cur.size) ⟨cur, h3, rfl⟩ hT (hS g ?_)).trans h3, h4⟩
    simp only [Value.slice.injEq] at h1
    exact ⟨_, h1.1, rfl⟩

/-- a sequence of the program's: its struct in block x, its pool in block b -/
structure SeqAt (B : Nat) (w : World) (x b : Nat) (t : ByteArray) (wd : Nat) (q : Sq) (a : Option Addr) (c : Nat) : Prop where
  Bx : B ≤ x
  top : Row 72 w x 6
  c0 : w.cell? ⟨x, 0, none⟩ = some (.pointer (some ⟨b, 0, none⟩))
  c1 : w.cell? ⟨x, 1, none⟩ = some (.string t)
  c2 : w.cell? ⟨x, 2, none⟩ = some (.int .i64 wd)
  c3 : w.cell? ⟨x, 3, none⟩ = some (.int .i64 q.st)
  c4 : w.cell? ⟨x, 4, none⟩ = some (.int .i64 q.n)
  c5 : w.cell? ⟨x, 5, none⟩ = some (.slice a q.P.length c)
  pg : RowI B w a q.P.length c q.P

theorem SeqAt.of_block {B : Nat} {w w' : World} {x b : Nat} {t : ByteArray} {wd : Nat} {q : Sq} {a : Option Addr} {c : Nat} (h : SeqAt B w x b t wd q a c) (e : w'.heap[x]? = w.heap[x]?) (hp : RowI B w' a q.P.length c q.P) : SeqAt B w' x b t wd q a c :=
  ⟨h.Bx, h.top.of_block e, (cell_of_block e 0).trans h.c0, (cell_of_block e 1).trans h.c1, (cell_of_block e 2).trans h.c2, (cell_of_block e 3).trans h.c3, (cell_of_block e 4).trans h.c4, (cell_of_block e 5).trans h.c5, hp⟩
theorem SeqAt.off {B B' : Nat} {T : TypeId → Bool} {w w' : World} {x b : Nat} {t : ByteArray} {wd : Nat} {q : Sq} {a : Option Addr} {c : Nat} (h : SeqAt B w x b t wd q a c) (o : Off B' T w w') (h1 : T 72 = false) (h2 : T 3 = false) : SeqAt B w' x b t wd q a c :=
  h.of_block (o.row h.top h1) (h.pg.off o h2)
theorem SeqAt.offS {B B' : Nat} {T : TypeId → Bool} {S : Nat → Prop} {w w' : World} {x b : Nat} {t : ByteArray} {wd : Nat} {q : Sq} {a : Option Addr} {c : Nat} (h : SeqAt B w x b t wd q a c) (o : OffS B' T S w w') (h1 : T 72 = false) (h2 : T 3 = false) (hS : ∀ k, Own x a k → ¬ S k) : SeqAt B w' x b t wd q a c :=
  h.of_block (o.row h.top h1 (hS x (.inl rfl))) (h.pg.offS o h2 fun k hk => hS k (.inr hk))
theorem SeqAt.below {B : Nat} {w w' : World} {x b : Nat} {t : ByteArray} {wd : Nat} {q : Sq} {a : Option Addr} {c : Nat} (h : SeqAt B w x b t wd q a c) (o : Below w.heap.size w w') : SeqAt B w' x b t wd q a c := h.off (T := fun _ => false) (B' := 0) (Off.of_below o) rfl rfl
theorem SeqAt.drewN {B : Nat} {w : World} {x b : Nat} {t : ByteArray} {wd : Nat} {q : Sq} {a : Option Addr} {c : Nat} (h : SeqAt B w x b t wd q a c) (m : Nat) : SeqAt B (w.drewN m) x b t wd q a c := h.off (T := fun _ => false) (B' := 0) ((Off.refl _ _ w).drewN m) rfl rfl
theorem SeqAt.type {B : Nat} {w : World} {x b : Nat} {t : ByteArray} {wd : Nat} {q : Sq} {a : Option Addr} {c : Nat} (h : SeqAt B w x b t wd q a c) {k : Nat} (hk : Own x a k) : B ≤ k ∧ k < w.heap.size ∧ (typeOf w k = some 72 ∨ typeOf w k = some 3) := by
  rcases hk with rfl | hk
  · exact ⟨h.Bx, h.top.lt, .inl h.top.type⟩
  · obtain ⟨h1, m, hr⟩ := h.pg.block hk
    exact ⟨h1, hr.lt, .inr hr.type⟩
/-- told by types alone -/
theorem OffS.off {B : Nat} {T : TypeId → Bool} {w w' : World} {x b : Nat} {t : ByteArray} {wd : Nat} {q : Sq} {a : Option Addr} {c : Nat} (o : OffS B T (Own x a) w w') (h : SeqAt B w x b t wd q a c) : Off B (fun t => T t || t == 72 || t == 3) w w' :=
  ⟨o.os, o.tape, o.output, o.size, fun k hk hc => o.block k hk (hc.imp id fun y => ⟨fun z => by
    rcases (h.type z).2.2 with e | e <;> simpa using y _ e, fun t' ht => by have := y t' ht; simp only [Bool.or_eq_false_iff] at this; exact this.1.1⟩)⟩

/-- one of its numbers is another -/
theorem SeqAt.set {B : Nat} {w : World} {x b : Nat} {t : ByteArray} {wd : Nat} {q : Sq} {a : Option Addr} {c : Nat} (h : SeqAt B w x b t wd q a c) (o : Nat) (v : Value) :
    Row 72 (w.setCell ⟨x, o, none⟩ v) x 6 ∧ RowI B (w.setCell ⟨x, o, none⟩ v) a q.P.length c q.P ∧ (∀ j, j ≠ o → (w.setCell ⟨x, o, none⟩ v).cell? ⟨x, j, none⟩ = w.cell? ⟨x, j, none⟩) ∧ OffS B (fun _ => false) (fun k => k = x) w (w.setCell ⟨x, o, none⟩ v) := by
  have os : OffS B (fun _ => false) (fun k => k = x) w (w.setCell ⟨x, o, none⟩ v) := OffS.set (S := fun k => k = x) h.Bx rfl o v
  refine ⟨h.top.set o v, h.pg.offS os rfl (fun k hk e => ?_), fun j hj => World.cell?_setCell_other _ _ _ _ (by first | simp | (simp; omega)), os⟩
  obtain ⟨_, m, hr⟩ := h.pg.block hk
  exact hr.ne h.top (by decide) e
theorem SeqAt.setN {B : Nat} {w : World} {x b : Nat} {t : ByteArray} {wd : Nat} {q : Sq} {a : Option Addr} {c : Nat} (h : SeqAt B w x b t wd q a c) (n : Nat) :
    SeqAt B (w.setCell ⟨x, 4, none⟩ (.int .i64 n)) x b t wd ⟨q.P, q.st, n⟩ a c ∧ OffS B (fun _ => false) (fun k => k = x) w (w.setCell ⟨x, 4, none⟩ (.int .i64 n)) := by
  obtain ⟨h1, h2, h3, h4⟩ := h.set 4 (.int .i64 n)
  exact ⟨⟨h.Bx, h1, (h3 0 (by decide)).trans h.c0, (h3 1 (by decide)).trans h.c1, (h3 2 (by decide)).trans h.c2, (h3 3 (by decide)).trans h.c3, World.cell?_setCell_same _ _ _ h.c4, (h3 5 (by decide)).trans h.c5, h2⟩, h4⟩
theorem SeqAt.setSt {B : Nat} {w : World} {x b : Nat} {t : ByteArray} {wd : Nat} {q : Sq} {a : Option Addr} {c : Nat} (h : SeqAt B w x b t wd q a c) (n : Nat) :
    SeqAt B (w.setCell ⟨x, 3, none⟩ (.int .i64 n)) x b t wd ⟨q.P, n, q.n⟩ a c ∧ OffS B (fun _ => false) (fun k => k = x) w (w.setCell ⟨x, 3, none⟩ (.int .i64 n)) := by
  obtain ⟨h1, h2, h3, h4⟩ := h.set 3 (.int .i64 n)
  exact ⟨⟨h.Bx, h1, (h3 0 (by decide)).trans h.c0, (h3 1 (by decide)).trans h.c1, (h3 2 (by decide)).trans h.c2, World.cell?_setCell_same _ _ _ h.c3, (h3 4 (by decide)).trans h.c4, (h3 5 (by decide)).trans h.c5, h2⟩, h4⟩
/-- its pages are in another row -/
theorem SeqAt.setP {B : Nat} {w : World} {x b : Nat} {t : ByteArray} {wd : Nat} {q : Sq} {a a' : Option Addr} {c c' : Nat} (h : SeqAt B w x b t wd q a c) (P : List Int) (hp : RowI B w a' P.length c' P) :
    SeqAt B (w.setCell ⟨x, 5, none⟩ (.slice a' P.length c')) x b t wd ⟨P, q.st, q.n⟩ a' c' ∧ OffS B (fun _ => false) (fun k => k = x) w (w.setCell ⟨x, 5, none⟩ (.slice a' P.length c')) := by
  obtain ⟨h1, h2, h3, h4⟩ := h.set 5 (.slice a' P.length c')
  refine ⟨⟨h.Bx, h1, (h3 0 (by decide)).trans h.c0, (h3 1 (by decide)).trans h.c1, (h3 2 (by decide)).trans h.c2, (h3 3 (by decide)).trans h.c3, (h3 4 (by decide)).trans h.c4, World.cell?_setCell_same _ _ _ h.c5, hp.offS h4 rfl (fun k hk e => ?_)⟩, h4⟩
  obtain ⟨_, m, hr⟩ := hp.block hk
  exact hr.ne h.top (by decide) e

/-- the row's cells, as the walk asks for them -/
theorem SeqAt.page {B : Nat} {w : World} {x b : Nat} {t : ByteArray} {wd : Nat} {q : Sq} {a : Option Addr} {c : Nat} (h : SeqAt B w x b t wd q a c) {i : Nat} (hi : i < q.P.length) : ∃ y, a = some y ∧ w.cell? (y.add i) = some (.int .i64 (q.P.getD i 0)) := by
  have hr := h.pg.reads
  obtain ⟨y, rfl⟩ := hr.some_ (by omega)
  exact ⟨y, rfl, hr.cell y rfl i hi⟩
end

end Go.Proofs.Ytgjjeggopeppfaa
