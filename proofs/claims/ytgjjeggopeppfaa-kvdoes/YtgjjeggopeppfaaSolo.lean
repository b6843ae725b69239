/- One sequence alone; three rows, a fork and one row more: what each tells then. -/
import Derived.Test.YtgjjeggopeppfaaRows
import Derived.Test.YtgjjeggopeppfaaPages
import Derived.Test.YtgjjeggopeppfaaBasis
import Derived.Test.YtgjjeggopeppfaaLeast
import Derived.Test.YtgjjeggopeppfaaLays
import Derived.Test.YtgjjeggopeppfaaTurns
import Derived.Test.YtgjjeggopeppfaaGoods
import Derived.Test.YtgjjeggopeppfaaNews
import Derived.Test.YtgjjeggopeppfaaCount
import Derived.Test.YtgjjeggopeppfaaLies
import Derived.Test.YtgjjeggopeppfaaSeqP
import Derived.Test.YtgjjeggopeppfaaSeqRN
import Derived.Test.YtgjjeggopeppfaaReadsB
import Derived.Test.YtgjjeggopeppfaaRooms
import Derived.Test.YtgjjeggopeppfaaPagesOf
import Derived.Test.YtgjjeggopeppfaaForks
import Derived.Test.YtgjjeggopeppfaaKeep
import Derived.Test.YtgjjeggopeppfaaRows13
import Derived.Test.YtgjjeggopeppfaaManys
import Derived.Test.YtgjjeggopeppfaaSeqsIn
import Derived.WalkKit
import Derived.ProofKit
import Derived.OpenShut
import Derived.Below
import Derived.WalkLawsBesides
import Derived.Deep.QuietTactic
import Derived.BigQuiet
namespace Go.Proofs.Ytgjjeggopeppfaa
open Go.ChangeShapes Go.WideShapes Go.ChangeAt Go.RowKit
set_option linter.unusedVariables false
set_option linter.unusedSimpArgs false

theorem takeE_one {N : Nat} {t : ByteArray} {wd : Nat} {s : Pl} {K : Nat} {Q : Nat → Sq} (h : Many N t wd s K Q) : takeE s t 1 = if freeTo s.pg N = 0 then 6 else 0 := by
  unfold takeE
  rw [if_neg (fun z => z.elim h.tne (by omega)), h.n, h.aside]
  by_cases e : freeTo s.pg N = 0
  · rw [if_pos e, if_pos (by omega)]
  · rw [if_neg e, if_neg (by omega)]
theorem Many.app_ok {N : Nat} {t : ByteArray} {wd : Nat} {s : Pl} {K : Nat} {Q : Nat → Sq} (h : Many N t wd s K Q) {i : Nat} {zs : List Int} (hz : zs.length = wd) (hf : needB wd s (Q i) = true → 1 ≤ freeTo s.pg N) : appE wd t s (Q i) zs = 0 := by
  unfold appE roomE
  rw [if_neg (by omega), takeE_one h]
  by_cases e : needB wd s (Q i) = true
  · rw [if_pos e, if_neg (by have := hf e; omega)]
  · rw [if_neg e]
theorem Many.app_full {N : Nat} {t : ByteArray} {wd : Nat} {s : Pl} {K : Nat} {Q : Nat → Sq} (h : Many N t wd s K Q) {i : Nat} {zs : List Int} (hz : zs.length = wd) (hn : needB wd s (Q i) = true) (hf : freeTo s.pg N = 0) : appE wd t s (Q i) zs = 6 := by
  unfold appE roomE
  rw [if_neg (by omega), takeE_one h, if_pos hn, if_pos hf]
theorem appQ_n {wd : Nat} {t : ByteArray} {s : Pl} {q : Sq} {zs : List Int} (h0 : appE wd t s q zs = 0) : (appQ wd t s q zs).n = q.n + 1 ∧ (appQ wd t s q zs).st = q.st ∧ (appQ wd t s q zs).P = roomP wd t s q := by
  unfold appQ
  rw [if_pos h0]
  exact ⟨rfl, rfl, rfl⟩

/-- one sequence alone, all of whose rows are there: its pages are those that are used -/
structure Solo (N : Nat) (t : ByteArray) (wd : Nat) (s : Pl) (Q : Nat → Sq) : Prop where
  many : Many N t wd s 1 Q
  free : freeTo s.pg N + (Q 0).P.length = N
  st : (Q 0).st = 0
theorem solo_new (N : Nat) (t : ByteArray) (wd : Nat) (n0 : 1 ≤ N) (n1 : N ≤ 256) (ht : ¬ t.toList = []) (w0 : 1 ≤ wd) (w1 : wd ≤ 32) : Solo N t wd (newPl N) (fun _ => ⟨[], 0, 0⟩) :=
  ⟨many_new N t wd n0 n1 ht w0 w1, by rw [freeTo_new]; rfl, rfl⟩
theorem Solo.len {N : Nat} {t : ByteArray} {wd : Nat} {s : Pl} {Q : Nat → Sq} (h : Solo N t wd s Q) : (Q 0).P.length = ((Q 0).n + 32 / wd - 1) / (32 / wd) ∧ (Q 0).P.length ≤ N := by
  have hq := h.many.ok 0 (by decide)
  have h1 := hq.hi
  have h2 := hq.lo
  have hr := hq.rr
  have h3 := h.free
  rw [h.st] at h1 h2
  refine ⟨?_, by omega⟩
  generalize 32 / wd = r at h1 h2 hr
  symm
  apply Nat.div_eq_of_lt_le
  · omega
  · rw [Nat.add_mul, Nat.one_mul]
    omega
theorem Solo.need {N : Nat} {t : ByteArray} {wd : Nat} {s : Pl} {Q : Nat → Sq} (h : Solo N t wd s Q) : (needB wd s (Q 0) = true ↔ (Q 0).n % (32 / wd) = 0) ∧ needV wd s (Q 0) = if (Q 0).n % (32 / wd) = 0 then 1 else 0 := by
  have hq := h.many.ok 0 (by decide)
  have hr := hq.rr
  have e : needB wd s (Q 0) = true ↔ (Q 0).n % (32 / wd) = 0 := by
    rw [h.many.solo rfl]
    cases hf : fitB wd (Q 0) with
    | true =>
      have h1 := (fit_iff hq).1 hf
      have h2 := hq.lo
      rw [h.st] at h1 h2
      simp only [Bool.not_true, Bool.false_eq_true, false_iff]
      intro e
      obtain ⟨c, hc⟩ := Nat.dvd_of_mod_eq_zero e
      generalize 32 / wd = r at h1 h2 hr hc
      rw [Nat.sub_zero, hc] at h1 h2
      have h3 : c < (Q 0).P.length := by
        rw [Nat.mul_comm] at h1
        exact Nat.lt_of_mul_lt_mul_right h1
      have h4 : (c + 1) * r ≤ (Q 0).P.length * r := Nat.mul_le_mul_right r h3
      rw [Nat.add_mul, Nat.one_mul, Nat.mul_comm c r] at h4
      omega
    | false =>
      have h1 := fit_no hq hf
      rw [h.st, Nat.sub_zero] at h1
      simp only [Bool.not_false, true_iff]
      rw [h1]
      exact Nat.mul_mod_left _ _
  refine ⟨e, ?_⟩
  unfold needV
  by_cases c : (Q 0).n % (32 / wd) = 0
  · rw [if_pos (e.2 c), if_pos c]
  · rw [if_neg (fun z => c (e.1 z)), if_neg c]
theorem Solo.app {N : Nat} {t : ByteArray} {wd : Nat} {s : Pl} {Q : Nat → Sq} (h : Solo N t wd s Q) {zs : List Int} (hz : zs.length = wd) (hw : ∀ z ∈ zs, (Lit.int .i64 z).wf = true) (hn : (Q 0).n < 1000) (h0 : appE wd t s (Q 0) zs = 0) :
    Solo N t wd (appS wd t s (Q 0) zs) (upd Q 0 (appQ wd t s (Q 0) zs)) ∧ (upd Q 0 (appQ wd t s (Q 0) zs) 0).n = (Q 0).n + 1 := by
  have hq := h.many.ok 0 (by decide)
  obtain ⟨m1, m2, _⟩ := h.many.app (by decide) zs hw hn h0
  obtain ⟨q1, q2, q3⟩ := appQ_n h0
  refine ⟨⟨m1, ?_, by rw [upd_same, q2]; exact h.st⟩, by rw [upd_same, q1]⟩
  rw [upd_same, q3, roomP_len hq]
  have h1 := h.free
  have hs := h.many.solo rfl
  by_cases hN : needB wd s (Q 0) = true
  · have hf : fitB wd (Q 0) = false := by rw [hN] at hs; simpa using hs
    rw [if_pos hN] at m2
    rw [if_pos ⟨hN, roomE_zero (appE_zero h0).2 hN, hf⟩]
    omega
  · rw [if_neg hN] at m2
    rw [if_neg (fun z => hN z.1)]
    omega
theorem Solo.appE {N : Nat} {t : ByteArray} {wd : Nat} {s : Pl} {Q : Nat → Sq} (h : Solo N t wd s Q) {zs : List Int} (hz : zs.length = wd) : Ytgjjeggopeppfaa.appE wd t s (Q 0) zs = if (Q 0).n < N * (32 / wd) then 0 else 6 := by
  have hq := h.many.ok 0 (by decide)
  have hr := hq.rr
  have h1 := h.free
  have h2 := hq.hi
  rw [h.st, Nat.sub_zero] at h2
  have hl := h.len.2
  have h4 : (Q 0).P.length * (32 / wd) ≤ N * (32 / wd) := Nat.mul_le_mul_right _ hl
  have hs := h.many.solo rfl
  cases hf : fitB wd (Q 0) with
  | true =>
    have h3 := (fit_iff hq).1 hf
    rw [h.st, Nat.sub_zero] at h3
    rw [if_pos (by omega)]
    exact h.many.app_ok hz (fun z => by rw [hs, hf] at z; cases z)
  | false =>
    have h3 := fit_no hq hf
    rw [h.st, Nat.sub_zero] at h3
    rw [hf] at hs
    by_cases e : (Q 0).P.length = N
    · rw [h3, e, if_neg (by omega)]
      exact h.many.app_full hz hs (by omega)
    · have h5 : ((Q 0).P.length + 1) * (32 / wd) ≤ N * (32 / wd) := Nat.mul_le_mul_right _ (by omega)
      rw [Nat.add_mul, Nat.one_mul] at h5
      rw [if_pos (by omega)]
      exact h.many.app_ok hz (fun _ => by omega)

def tR : ByteArray := ⟨#[114]⟩
theorem tR_ne : ¬ tR.toList = [] := by simp [tR, ByteArray.toList_eq]

/-- behind a fork of three rows of sixteen numbers -/
structure Wk (s : Pl) (Q : Nat → Sq) : Prop where
  many : Many 8 tR 16 s 2 Q
  free : freeTo s.pg 8 = 6
  same : Q 1 = Q 0
  st : (Q 0).st = 0
  n : (Q 0).n = 3
  rows : RowsAt 16 s 2 Q (fun _ k => lawRow 16 k)
theorem Wk.len {s : Pl} {Q : Nat → Sq} (h : Wk s Q) : (Q 0).P.length = 2 := by
  have hq := h.many.ok 0 (by decide)
  have h1 := hq.hi
  have h2 := hq.lo
  rw [h.st, h.n] at h1 h2
  omega
theorem Wk.fit {s : Pl} {Q : Nat → Sq} (h : Wk s Q) : fitB 16 (Q 0) = true := by
  rw [fit_iff (h.many.ok 0 (by decide)), h.st, h.n, h.len]
  decide
theorem Wk.need {s : Pl} {Q : Nat → Sq} (h : Wk s Q) : needB 16 s (Q 0) = true := by
  unfold needB
  rw [h.fit]
  have hm := lastZ_mem (show 0 < (Q 0).P.length by rw [h.len]; decide)
  obtain ⟨u1, u2⟩ := h.many.used (by decide) hm
  obtain ⟨z0, z1⟩ := h.many.inn 0 (by decide) _ hm
  have h1 := h.many.ow (lastZ (Q 0).P).toNat (by omega)
  have h2 := sumC_ge2 Q 2 0 1 (lastZ (Q 0).P).toNat (by decide) (by decide) (by decide)
  rw [h.same, Int.toNat_of_nonneg z0, count_same (h.many.nd 0 (by decide)) hm] at h2
  have e : decide (owZ s (lastZ (Q 0).P) ≤ 1) = false := by
    unfold owZ
    rw [if_pos u1, decide_eq_false_iff_not]
    omega
  rw [e]
  rfl
/-- .. and one row more in the first -/
theorem Wk.next {s : Pl} {Q : Nat → Sq} (h : Wk s Q) : appE 16 tR s (Q 0) (lawRow 16 9) = 0 ∧ Many 8 tR 16 (appS 16 tR s (Q 0) (lawRow 16 9)) 2 (upd Q 0 (appQ 16 tR s (Q 0) (lawRow 16 9))) ∧
    needV 16 (appS 16 tR s (Q 0) (lawRow 16 9)) (upd Q 0 (appQ 16 tR s (Q 0) (lawRow 16 9)) 1) = 0 ∧ cntTo (appS 16 tR s (Q 0) (lawRow 16 9)).pg tR 8 = 3 ∧
    (rowE (upd Q 0 (appQ 16 tR s (Q 0) (lawRow 16 9)) 1) 2 = 0 ∧ rowV 16 (appS 16 tR s (Q 0) (lawRow 16 9)) (upd Q 0 (appQ 16 tR s (Q 0) (lawRow 16 9)) 1) 2 = lawRow 16 2) ∧
    (rowE (upd Q 0 (appQ 16 tR s (Q 0) (lawRow 16 9)) 0) 3 = 0 ∧ rowV 16 (appS 16 tR s (Q 0) (lawRow 16 9)) (upd Q 0 (appQ 16 tR s (Q 0) (lawRow 16 9)) 0) 3 = lawRow 16 9) ∧
    rowE (upd Q 0 (appQ 16 tR s (Q 0) (lawRow 16 9)) 1) 3 = 25 := by
  have hq := h.many.ok 0 (by decide)
  have hN := h.need
  have hf := h.fit
  have h0 : appE 16 tR s (Q 0) (lawRow 16 9) = 0 := h.many.app_ok (lawRow_len 16 9) (fun _ => by rw [h.free]; decide)
  obtain ⟨m1, m2, m3⟩ := h.many.app (by decide) (lawRow 16 9) (lawRow_wf 16 9 (by decide) (by decide) (by decide)) (by rw [h.n]; decide) h0
  obtain ⟨q1, q2, q3⟩ := appQ_n h0
  have hR := m3 _ h.rows
  rw [if_pos hN, h.free] at m2
  have hE := roomE_zero (appE_zero h0).2 hN
  have eP : roomP 16 tR s (Q 0) = (Q 0).P.set ((Q 0).P.length - 1) (takenZ s tR) := by unfold roomP; rw [if_pos ⟨hN, hE⟩, if_pos hf]
  have hl : 0 < (Q 0).P.length := by rw [h.len]; decide
  obtain ⟨A, eA, eB⟩ := set_split hl (takenZ s tR)
  have e1 : upd Q 0 (appQ 16 tR s (Q 0) (lawRow 16 9)) 1 = Q 0 := by rw [upd_other _ _ _ _ (by decide)]; exact h.same
  have hcount := m1.count
  have n1 : (upd Q 0 (appQ 16 tR s (Q 0) (lawRow 16 9)) 1).n = 3 := by rw [e1]; exact h.n
  have n0 : (upd Q 0 (appQ 16 tR s (Q 0) (lawRow 16 9)) 0).n = 4 := by rw [upd_same, q1, h.n]
  have s1 : (upd Q 0 (appQ 16 tR s (Q 0) (lawRow 16 9)) 1).st = 0 := by rw [e1]; exact h.st
  have s0 : (upd Q 0 (appQ 16 tR s (Q 0) (lawRow 16 9)) 0).st = 0 := by rw [upd_same, q2, h.st]
  refine ⟨h0, m1, ?_, by omega, ?_, ?_, ?_⟩
  · have hm := lastZ_mem hl
    obtain ⟨u1, u2⟩ := m1.used (i := 1) (z := lastZ (Q 0).P) (by decide) (by rw [e1]; exact hm)
    obtain ⟨z0, z1⟩ := h.many.inn 0 (by decide) _ hm
    have ho := m1.ow (lastZ (Q 0).P).toNat (by omega)
    have hs : sumC (upd Q 0 (appQ 16 tR s (Q 0) (lawRow 16 9))) 2 (lastZ (Q 0).P).toNat = 1 := by
      simp only [sumC]
      rw [e1, upd_same, q3, eP, eB, Int.toNat_of_nonneg z0, count_same (h.many.nd 0 (by decide)) hm, List.count_eq_zero_of_not_mem]
      intro hz
      have hnd := h.many.nd 0 (by decide)
      rw [eA] at hnd
      have hy := (takeR_one h.many.good hE).2.2.2
      have hu := (h.many.used (i := 0) (by decide) hm).2
      rcases List.mem_append.1 hz with hz | hz
      · exact (List.nodup_append.1 hnd).2.2 _ hz _ (by simp) rfl
      · rw [List.mem_singleton] at hz
        rw [← hz] at hy
        omega
    unfold needV needB
    rw [e1, hf]
    have e : decide (owZ (appS 16 tR s (Q 0) (lawRow 16 9)) (lastZ (Q 0).P) ≤ 1) = true := by
      unfold owZ
      rw [if_pos u1, decide_eq_true_eq]
      omega
    rw [e]
    rfl
  · have := hR.row m1 (i := 1) (k := 2) (by decide) (by rw [s1]; decide) (by rw [n1]; decide) (by show (if _ then _ else lawRow 16 _).length = 16; rw [if_neg (fun z => absurd z.1 (by decide))]; exact lawRow_len _ _)
    refine ⟨this.1, this.2.trans ?_⟩
    show (if _ then _ else lawRow 16 _) = _
    rw [if_neg (fun z => absurd z.1 (by decide))]
    rfl
  · have := hR.row m1 (i := 0) (k := 3) (by decide) (by rw [s0]; decide) (by rw [n0]; decide) (by show (if _ then _ else lawRow 16 _).length = 16; rw [if_pos ⟨rfl, h.n.symm⟩]; exact lawRow_len _ _)
    refine ⟨this.1, this.2.trans ?_⟩
    show (if _ then _ else lawRow 16 _) = _
    rw [if_pos ⟨rfl, h.n.symm⟩]
  · unfold rowE
    rw [n1, if_pos (.inr (by decide))]

end Go.Proofs.Ytgjjeggopeppfaa
