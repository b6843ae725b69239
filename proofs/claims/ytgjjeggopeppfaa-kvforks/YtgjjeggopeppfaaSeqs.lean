/- Sequences of rows in pages as plain values: what each act makes of them and of the pool. -/
import Derived.Test.YtgjjeggopeppfaaRows
import Derived.Test.YtgjjeggopeppfaaPages
import Derived.Test.YtgjjeggopeppfaaReadsP
import Derived.Test.YtgjjeggopeppfaaReadsQ
import Derived.Test.YtgjjeggopeppfaaLays
import Derived.Test.YtgjjeggopeppfaaTurns
import Derived.WalkKit
import Derived.ProofKit
import Derived.OpenShut
import Derived.Below
import Derived.WalkLawsBesides
import Derived.Deep.QuietTactic
import Derived.BigQuiet
namespace Go.Proofs.Ytgjjeggopeppfaa
open Go.ChangeShapes Go.WideShapes Go.ChangeAt Go.RowKit
set_option linter.unusedVariables false

/-- a sequence: its pages, the number of the first row of the first page, how many rows there were -/
structure Sq where
  P : List Int
  st : Nat
  n : Nat

/-- does the next row go into a page that is there? -/
def fitB (wd : Nat) (q : Sq) : Bool := decide ((q.n : Int) - q.st < (q.P.length : Int) * ((32 / wd : Nat) : Int))
def lastZ (P : List Int) : Int := P.getD (P.length - 1) 0
def needB (wd : Nat) (s : Pl) (q : Sq) : Bool := !(fitB wd q && decide (owZ s (lastZ q.P) ≤ 1))
def needV (wd : Nat) (s : Pl) (q : Sq) : Int := if needB wd s q = true then 1 else 0

/-- a page's cells are copied into another -/
def copyTo (s : Pl) (x y : Int) : Nat → Pl
  | 0 => s
  | k + 1 => putS (copyTo s x y k) y k (getV (copyTo s x y k) x k)
/-- a row's numbers are laid one behind the other -/
def rowTo (s : Pl) (z c : Int) (zs : List Int) : Nat → Pl
  | 0 => s
  | k + 1 => putS (rowTo s z c zs k) z (c + k) (zs.getD k 0)

def roomE (wd : Nat) (t : ByteArray) (s : Pl) (q : Sq) : Int := if needB wd s q = true then takeE s t 1 else 0
def takenZ (s : Pl) (t : ByteArray) : Int := (takeR s t 1).getD 0 0
def roomS (wd : Nat) (t : ByteArray) (s : Pl) (q : Sq) : Pl :=
  if needB wd s q = true ∧ takeE s t 1 = 0 then (if fitB wd q = true then drS (copyTo (takeS s t 1) (lastZ q.P) (takenZ s t) 32) (lastZ q.P) else takeS s t 1) else s
def roomP (wd : Nat) (t : ByteArray) (s : Pl) (q : Sq) : List Int :=
  if needB wd s q = true ∧ takeE s t 1 = 0 then (if fitB wd q = true then q.P.set (q.P.length - 1) (takenZ s t) else q.P ++ [takenZ s t]) else q.P
def appE (wd : Nat) (t : ByteArray) (s : Pl) (q : Sq) (zs : List Int) : Int := if zs.length ≠ wd then 21 else roomE wd t s q
def pageZ (wd : Nat) (P : List Int) (st i : Nat) : Int := P.getD ((i - st) / (32 / wd)) 0
def cellN (wd : Nat) (st i : Nat) : Nat := (i - st) % (32 / wd) * wd
def appS (wd : Nat) (t : ByteArray) (s : Pl) (q : Sq) (zs : List Int) : Pl :=
  if appE wd t s q zs = 0 then rowTo (roomS wd t s q) (pageZ wd (roomP wd t s q) q.st q.n) (cellN wd q.st q.n) zs wd else s
def appQ (wd : Nat) (t : ByteArray) (s : Pl) (q : Sq) (zs : List Int) : Sq :=
  if appE wd t s q zs = 0 then ⟨roomP wd t s q, q.st, q.n + 1⟩ else q

def rowE (q : Sq) (i : Int) : Int := if i < q.st ∨ (q.n : Int) ≤ i then 25 else 0
def rowV (wd : Nat) (s : Pl) (q : Sq) (i : Int) : List Int :=
  if rowE q i = 0 then (List.range wd).map fun (k : Nat) => getV s (pageZ wd q.P q.st i.toNat) (((cellN wd q.st i.toNat : Nat) : Int) + (k : Int)) else []
def forkS (s : Pl) (q : Sq) : Pl := q.P.foldl shS s
def keepN (wd : Nat) (q : Sq) (k : Int) : Nat := (((q.n : Int) - max k 0).toNat - q.st) / (32 / wd)
def keepS (wd : Nat) (s : Pl) (q : Sq) (k : Int) : Pl := (q.P.take (keepN wd q k)).foldl drS s
def keepQ (wd : Nat) (q : Sq) (k : Int) : Sq := ⟨q.P.drop (keepN wd q k), q.st + keepN wd q k * (32 / wd), q.n⟩
def endS (s : Pl) (q : Sq) : Pl := q.P.foldl drS s
def endQ (q : Sq) : Sq := ⟨[], q.n, q.n⟩

/-- a sequence that is as it should be -/
structure SqOk (wd : Nat) (q : Sq) : Prop where
  w0 : 1 ≤ wd
  w1 : wd ≤ 32
  st : q.st ≤ q.n
  few : q.n ≤ 1000
  hi : q.n - q.st ≤ q.P.length * (32 / wd)
  lo : q.P.length * (32 / wd) < q.n - q.st + 32 / wd

theorem rr_pos {wd : Nat} (h0 : 1 ≤ wd) (h1 : wd ≤ 32) : 1 ≤ 32 / wd := Nat.div_pos h1 h0
theorem rr_le (wd : Nat) : 32 / wd ≤ 32 := Nat.div_le_self _ _
theorem rr_mul (wd : Nat) : 32 / wd * wd ≤ 32 := Nat.div_mul_le_self 32 wd
theorem SqOk.rr {wd : Nat} {q : Sq} (h : SqOk wd q) : 1 ≤ 32 / wd := rr_pos h.w0 h.w1
theorem SqOk.len {wd : Nat} {q : Sq} (h : SqOk wd q) : q.P.length ≤ q.n := by
  have h1 := h.lo
  have h2 := h.rr
  have h3 : q.P.length * 1 ≤ q.P.length * (32 / wd) := Nat.mul_le_mul_left _ h2
  by_cases e : q.P.length ≤ q.n
  · exact e
  · exfalso
    obtain ⟨d, hd⟩ : ∃ d, q.P.length = q.n + 1 + d := ⟨q.P.length - q.n - 1, by omega⟩
    rw [hd] at h1
    generalize 32 / wd = r at h1 h2
    have : (q.n + 1 + d) * r = q.n * r + r + d * r := by rw [Nat.add_mul, Nat.add_mul, Nat.one_mul]
    have h4 : q.n * 1 ≤ q.n * r := Nat.mul_le_mul_left _ h2
    omega
theorem fit_iff {wd : Nat} {q : Sq} (h : SqOk wd q) : fitB wd q = true ↔ q.n - q.st < q.P.length * (32 / wd) := by
  unfold fitB
  rw [decide_eq_true_eq, ← Int.natCast_mul]
  have := h.st
  omega
theorem fit_no {wd : Nat} {q : Sq} (h : SqOk wd q) (hf : fitB wd q = false) : q.n - q.st = q.P.length * (32 / wd) := by
  have h1 := h.hi
  have : ¬ fitB wd q = true := by simp [hf]
  rw [fit_iff h] at this
  omega
theorem fit_len {wd : Nat} {q : Sq} (h : SqOk wd q) (hf : fitB wd q = true) : 0 < q.P.length := by
  rw [fit_iff h] at hf
  by_cases e : q.P.length = 0
  · rw [e] at hf; omega
  · omega
/-- the row's page is there -/
theorem page_lt {wd : Nat} {q : Sq} (h : SqOk wd q) {i : Nat} (h0 : q.st ≤ i) (hi : i < q.n) : (i - q.st) / (32 / wd) < q.P.length := by
  have h1 := h.hi
  have h2 := h.rr
  rw [Nat.div_lt_iff_lt_mul (by omega)]
  omega
theorem cell_lt {wd : Nat} (h0 : 1 ≤ wd) (h1 : wd ≤ 32) (st i k : Nat) (hk : k < wd) : cellN wd st i + k < 32 := by
  have hr := rr_pos h0 h1
  have hm := rr_mul wd
  have hlt : (i - st) % (32 / wd) < 32 / wd := Nat.mod_lt _ (by omega)
  unfold cellN
  generalize (i - st) % (32 / wd) = m at hlt
  generalize 32 / wd = r at hm hlt
  have : (m + 1) * wd ≤ r * wd := Nat.mul_le_mul_right _ hlt
  rw [Nat.add_mul, Nat.one_mul] at this
  omega

/-- a sequence goes on being as it should be -/
theorem roomP_len {wd : Nat} {t : ByteArray} {s : Pl} {q : Sq} (h : SqOk wd q) : (roomP wd t s q).length = if needB wd s q = true ∧ takeE s t 1 = 0 ∧ fitB wd q = false then q.P.length + 1 else q.P.length := by
  unfold roomP
  by_cases h1 : needB wd s q = true ∧ takeE s t 1 = 0
  · rw [if_pos h1]
    by_cases h2 : fitB wd q = true
    · rw [if_pos h2, if_neg (fun x => by simp [h2] at x), List.length_set]
    · rw [if_neg h2, if_pos ⟨h1.1, h1.2, by simpa using h2⟩, List.length_append]; rfl
  · rw [if_neg h1, if_neg (fun x => h1 ⟨x.1, x.2.1⟩)]
theorem appE_zero {wd : Nat} {t : ByteArray} {s : Pl} {q : Sq} {zs : List Int} (h : appE wd t s q zs = 0) : zs.length = wd ∧ roomE wd t s q = 0 := by
  unfold appE at h
  split at h
  · omega
  · rename_i e; exact ⟨by omega, h⟩
theorem roomE_zero {wd : Nat} {t : ByteArray} {s : Pl} {q : Sq} (h : roomE wd t s q = 0) : needB wd s q = true → takeE s t 1 = 0 := by
  unfold roomE at h
  intro e
  rwa [if_pos e] at h
theorem need_of_fit {wd : Nat} {s : Pl} {q : Sq} (h : fitB wd q = false) : needB wd s q = true := by simp [needB, h]
/-- behind makeRoom the next row's page is there -/
theorem room_lt {wd : Nat} {t : ByteArray} {s : Pl} {q : Sq} (h : SqOk wd q) (h0 : roomE wd t s q = 0) : q.n - q.st < (roomP wd t s q).length * (32 / wd) ∧ (roomP wd t s q).length * (32 / wd) < q.n - q.st + 1 + 32 / wd := by
  rw [roomP_len h]
  have hr := h.rr
  by_cases hf : fitB wd q = true
  · rw [if_neg (fun x => by simp [hf] at x)]
    exact ⟨(fit_iff h).1 hf, by have := h.lo; omega⟩
  · have hf' : fitB wd q = false := by simpa using hf
    have hn := need_of_fit (s := s) hf'
    rw [if_pos ⟨hn, roomE_zero h0 hn, hf'⟩, Nat.add_mul, Nat.one_mul, fit_no h hf']
    omega
theorem SqOk.app {wd : Nat} {t : ByteArray} {s : Pl} {q : Sq} {zs : List Int} (h : SqOk wd q) (hf : q.n < 1000) : SqOk wd (appQ wd t s q zs) := by
  unfold appQ
  split
  · rename_i h0
    obtain ⟨h1, h2⟩ := room_lt h (appE_zero h0).2
    have := h.st
    exact ⟨h.w0, h.w1, by show q.st ≤ q.n + 1; omega, hf, by show q.n + 1 - q.st ≤ (roomP wd t s q).length * (32 / wd); omega, by show (roomP wd t s q).length * (32 / wd) < q.n + 1 - q.st + 32 / wd; omega⟩
  · exact h
theorem keepN_le {wd : Nat} {q : Sq} (h : SqOk wd q) (k : Int) : keepN wd q k * (32 / wd) ≤ q.n - q.st ∧ keepN wd q k ≤ q.P.length := by
  have hr := h.rr
  have h1 : keepN wd q k * (32 / wd) ≤ q.n - q.st := by
    unfold keepN
    refine Nat.le_trans (Nat.div_mul_le_self _ _) ?_
    omega
  refine ⟨h1, ?_⟩
  have h2 := h.hi
  exact Nat.le_of_mul_le_mul_right (Nat.le_trans h1 h2) hr
theorem SqOk.keep {wd : Nat} {q : Sq} (h : SqOk wd q) (k : Int) : SqOk wd (keepQ wd q k) := by
  obtain ⟨h1, h2⟩ := keepN_le h k
  have h3 := h.hi
  have h4 := h.lo
  have h5 := h.st
  refine ⟨h.w0, h.w1, ?_, h.few, ?_, ?_⟩
  · show q.st + _ ≤ q.n
    omega
  · show q.n - (q.st + _) ≤ (q.P.drop _).length * _
    rw [List.length_drop, Nat.sub_mul]
    omega
  · show (q.P.drop _).length * _ < q.n - (q.st + _) + _
    rw [List.length_drop, Nat.sub_mul]
    omega
theorem SqOk.end_ {wd : Nat} {q : Sq} (h : SqOk wd q) : SqOk wd (endQ q) := ⟨h.w0, h.w1, Nat.le_refl _, h.few, by simp [endQ], by show 0 * _ < _; rw [Nat.zero_mul]; have := h.rr; omega⟩
/-- one page more is let go of as long as its rows are all ahead -/
theorem keep_go {wd : Nat} {q : Sq} (h : SqOk wd q) (k : Int) (g : Nat) : g < keepN wd q k ↔ (q.st : Int) + g * ((32 / wd : Nat) : Int) + ((32 / wd : Nat) : Int) ≤ (q.n : Int) - max k 0 := by
  have hr := h.rr
  unfold keepN
  generalize 32 / wd = r at hr
  rw [← Nat.succ_le_iff, Nat.le_div_iff_mul_le (by omega), Nat.succ_mul, ← Int.natCast_mul]
  omega

end Go.Proofs.Ytgjjeggopeppfaa
