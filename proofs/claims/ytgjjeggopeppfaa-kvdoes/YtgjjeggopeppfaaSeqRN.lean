/- Texts put together: SeqRd, SeqNeed. -/
import Derived.Test.YtgjjeggopeppfaaRows
import Derived.Test.YtgjjeggopeppfaaPages
import Derived.Test.YtgjjeggopeppfaaBasis
import Derived.Test.YtgjjeggopeppfaaLeast
import Derived.Test.YtgjjeggopeppfaaSeqP
import Derived.Test.YtgjjeggopeppfaaReadsB
import Derived.WalkKit
import Derived.ProofKit
import Derived.OpenShut
import Derived.Below
import Derived.WalkLawsBesides
import Derived.Deep.QuietTactic
import Derived.BigQuiet
import Derived.Test.YtgjjeggopeppfaaLays
import Derived.Test.YtgjjeggopeppfaaGoods
namespace Go.Proofs.Ytgjjeggopeppfaa

/- What the program reads of a sequence: how many rows a page holds, Len, First, the last page, whether there is room. -/
section
open Go.ChangeShapes Go.WideShapes Go.ChangeAt Go.RowKit
set_option linter.unusedVariables false
set_option linter.unusedSimpArgs false

theorem wrap_nat {n : Nat} (h : n ≤ 9223372036854775807) : IntKind.i64.wrap (n : Int) = n := by
  simp [IntKind.wrap, IntKind.signed, IntKind.bits]
  omega
theorem quo32 {wd : Nat} (h0 : 1 ≤ wd) (h1 : wd ≤ 32) : ∃ r : Nat, 32 / wd = r ∧ (32 : Int).tdiv (wd : Int) = (r : Int) ∧ 1 ≤ r ∧ r ≤ 32 ∧ IntKind.i64.wrap (r : Int) = (r : Int) := by
  refine ⟨32 / wd, rfl, ?_, rr_pos h0 h1, rr_le wd, wrap_nat (by have := rr_le wd; omega)⟩
  rw [show (32 : Int) = ((32 : Nat) : Int) from rfl, ← Int.ofNat_tdiv]

theorem rows_call {B : Nat} {w : World} {x b : Nat} {t : ByteArray} {wd : Nat} {q : Sq} {a : Option Addr} {c : Nat} (h : SeqAt B w x b t wd q a c) (hw : 1 ≤ wd ∧ wd ≤ 32) :
    Calls Try.prog 43 #[.pointer (some ⟨x, 0, none⟩)] w fun e w' => e = .returned (.int .i64 ((32 / wd : Nat) : Int)) ∧ w' = w := by
  have c2 := h.c2
  obtain ⟨r, er, e1, r0, r1, e2⟩ := quo32 hw.1 hw.2
  rw [er]
  have z : ((wd : Int) == 0) = false := by simp; omega
  have z' : ¬ ((wd : Int) = 0) := by omega
  obtain ⟨h0, h1⟩ := hw
  clear h er
  go_enter Try.func43, Try.ntmps43
  go_wp2
  go_ret
  exact ⟨by simp, rfl⟩

theorem len_call {B : Nat} {w : World} {x b : Nat} {t : ByteArray} {wd : Nat} {q : Sq} {a : Option Addr} {c : Nat} (h : SeqAt B w x b t wd q a c) : Calls Try.prog 23 #[.pointer (some ⟨x, 0, none⟩)] w fun e w' => e = .returned (.int .i64 q.n) ∧ w' = w := by
  have c4 := h.c4
  clear h
  go_enter Try.func23, Try.ntmps23
  go_wp2
  go_ret
  exact ⟨rfl, rfl⟩
theorem first_call {B : Nat} {w : World} {x b : Nat} {t : ByteArray} {wd : Nat} {q : Sq} {a : Option Addr} {c : Nat} (h : SeqAt B w x b t wd q a c) : Calls Try.prog 24 #[.pointer (some ⟨x, 0, none⟩)] w fun e w' => e = .returned (.int .i64 q.st) ∧ w' = w := by
  have c3 := h.c3
  clear h
  go_enter Try.func24, Try.ntmps24
  go_wp2
  go_ret
  exact ⟨rfl, rfl⟩

theorem last_call {B : Nat} {w : World} {x b : Nat} {t : ByteArray} {wd : Nat} {q : Sq} {a : Option Addr} {c : Nat} (h : SeqAt B w x b t wd q a c) (hl : 0 < q.P.length) (hm : q.P.length ≤ 1000) :
    Calls Try.prog 56 #[.pointer (some ⟨x, 0, none⟩)] w fun e w' => e = .returned (.int .i64 (lastZ q.P)) ∧ ∃ m, w' = w.drewN m := by
  have c5 := h.c5
  obtain ⟨y, rfl, hc⟩ := h.page (i := q.P.length - 1) (by omega)
  have e : lastZ q.P = q.P.getD (q.P.length - 1) 0 := rfl
  rw [← e] at hc
  obtain ⟨Z, eZ⟩ : ∃ Z, lastZ q.P = Z := ⟨_, rfl⟩
  rw [eZ] at hc ⊢
  obtain ⟨L, eL⟩ : ∃ L, q.P.length = L + 1 := ⟨q.P.length - 1, by omega⟩
  rw [eL] at c5 hc hm
  simp only [Nat.add_sub_cancel] at hc
  have eI : ((L + 1 : Nat) : Int) - 1 = (L : Int) := by omega
  clear h e eZ eL hl
  go_enter Try.func56, Try.ntmps56
  go_wp2
  go_quiet (fail)
  go_wp2
  go_ret
  exact ⟨rfl, _, rfl⟩

theorem hasRoom_call {B : Nat} {w : World} {x b : Nat} {t : ByteArray} {wd : Nat} {q : Sq} {a : Option Addr} {c : Nat} (h : SeqAt B w x b t wd q a c) (hq : SqOk wd q) :
    Calls Try.prog 55 #[.pointer (some ⟨x, 0, none⟩)] w fun e w' => e = .returned (.bool (fitB wd q)) ∧ ∃ m, w' = w.drewN m := by
  have c3 := h.c3
  have c4 := h.c4
  have c5 := h.c5
  have k := fun m => rows_call (h.drewN m) ⟨hq.w0, hq.w1⟩
  have hl := hq.len
  have hf := hq.few
  have hs := hq.st
  have r1 := rr_le wd
  unfold fitB
  obtain ⟨r, er⟩ : ∃ r : Nat, 32 / wd = r := ⟨_, rfl⟩
  rw [er] at r1 k ⊢
  obtain ⟨L, eL⟩ : ∃ L, q.P.length = L := ⟨_, rfl⟩
  rw [eL] at c5 hl ⊢
  obtain ⟨n, en⟩ : ∃ n, q.n = n := ⟨_, rfl⟩
  rw [en] at c4 hl hf hs ⊢
  obtain ⟨st, es⟩ : ∃ st, q.st = st := ⟨_, rfl⟩
  rw [es] at c3 hs ⊢
  have hL : L ≤ 1000 := by omega
  have hm : L * r ≤ 1000 * 32 := Nat.mul_le_mul hL r1
  have hm' : (L : Int) * (r : Int) ≤ 32000 := by rw [← Int.natCast_mul]; omega
  have hm0 : 0 ≤ (L : Int) * (r : Int) := by rw [← Int.natCast_mul]; omega
  clear h hq er eL en es
  go_enter Try.func55, Try.ntmps55
  go_wp2
  go_quiet (first | (go_at_call 43; exact Calls.quiet_of_same (k _)))
  go_wp2
  go_ret
  exact ⟨rfl, _, rfl⟩
end

/- What the program tells of the next row: Need, and the place of a row. -/
section
open Go.ChangeShapes Go.WideShapes Go.ChangeAt Go.RowKit
set_option linter.unusedVariables false
set_option linter.unusedSimpArgs false

theorem need_call {g m : Nat} {s : Pl} {B : Nat} {w : World} {x b : Nat} {t : ByteArray} {wd : Nat} {q : Sq} {a : Option Addr} {c : Nat} (h : SeqAt B w x b t wd q a c) (hp : PoolAt B w b g s) (hG : Good m s) (hq : SqOk wd q) :
    Calls Try.prog 29 #[.pointer (some ⟨x, 0, none⟩)] w fun e w' => e = .returned (.int .i64 (needV wd s q)) ∧ ∃ m, w' = w.drewN m := by
  have c0 := h.c0
  have k55 := fun m => hasRoom_call (h.drewN m) hq
  unfold needV needB
  by_cases hf : fitB wd q = true
  · have hl := fit_len hq hf
    have hm : q.P.length ≤ 1000 := Nat.le_trans hq.len hq.few
    have k56 := fun m => last_call (h.drewN m) hl hm
    have k49 := fun m => owners_call (hp.drewN m) hG.n1 (lastZ q.P)
    rw [hf] at k55 ⊢
    obtain ⟨Z, eZ⟩ : ∃ Z, lastZ q.P = Z := ⟨_, rfl⟩
    rw [eZ] at k56 k49 ⊢
    obtain ⟨O, eO⟩ : ∃ O, owZ s Z = O := ⟨_, rfl⟩
    rw [eO] at k49 ⊢
    clear h hp hG hq hf hl hm eZ eO
    by_cases ho : O ≤ 1
    · have d : decide (O ≤ 1) = true := by simp [ho]
      rw [d]
      go_enter Try.func29, Try.ntmps29
      go_wp2
      go_quiet (first | (go_at_call 55; exact Calls.quiet_of (k55 _)) | (go_at_call 56; exact Calls.quiet_of (k56 _)) | (go_at_call 49; exact Calls.quiet_of_same (k49 _)))
      go_wp2
      go_ret
      exact ⟨by simp, _, rfl⟩
    · have d : decide (O ≤ 1) = false := by simp [ho]
      rw [d]
      go_enter Try.func29, Try.ntmps29
      go_wp2
      go_quiet (first | (go_at_call 55; exact Calls.quiet_of (k55 _)) | (go_at_call 56; exact Calls.quiet_of (k56 _)) | (go_at_call 49; exact Calls.quiet_of_same (k49 _)))
      go_wp2
      go_ret
      exact ⟨by simp, _, rfl⟩
  · have hf' : fitB wd q = false := by simpa using hf
    rw [hf'] at k55 ⊢
    clear h hp hG hq hf hf'
    go_enter Try.func29, Try.ntmps29
    go_wp2
    go_quiet (first | (go_at_call 55; exact Calls.quiet_of (k55 _)))
    go_wp2
    go_ret
    exact ⟨by simp, _, rfl⟩

theorem tdivN (a b : Nat) : (a : Int).tdiv (b : Int) = ((a / b : Nat) : Int) := (Int.ofNat_tdiv a b).symm
theorem tmodN (a b : Nat) : (a : Int).tmod (b : Int) = ((a % b : Nat) : Int) := (Int.ofNat_tmod a b).symm

theorem place_call13 {B : Nat} {w : World} {x b : Nat} {t : ByteArray} {wd : Nat} {q : Sq} {a : Option Addr} {c : Nat} (h : SeqAt B w x b t wd q a c) (hq : 1 ≤ wd ∧ wd ≤ 32) (i : Nat) (h0 : q.st ≤ i) (h1 : i ≤ 1000) (hi : (i - q.st) / (32 / wd) < q.P.length) :
    Calls Try.prog 32 #[.pointer (some ⟨x, 0, none⟩), .int .i64 i] w fun e w' => e = .returned (.tuple #[.int .i64 (pageZ wd q.P q.st i), .int .i64 (cellN wd q.st i : Nat)]) ∧ ∃ m, w' = w.drewN m := by
  have c2 := h.c2
  have c3 := h.c3
  have c5 := h.c5
  have k43 := fun m => rows_call (h.drewN m) hq
  have hlt := cell_lt hq.1 hq.2 q.st i 0 hq.1
  unfold cellN at hlt
  unfold pageZ cellN
  obtain ⟨y, rfl, hc⟩ := h.page hi
  have r0 := rr_pos hq.1 hq.2
  have r1 := rr_le wd
  obtain ⟨r, er⟩ : ∃ r : Nat, 32 / wd = r := ⟨_, rfl⟩
  simp only [er] at k43 r0 r1 hc hlt hi ⊢
  obtain ⟨Z, eZ⟩ : ∃ Z, q.P.getD ((i - q.st) / r) 0 = Z := ⟨_, rfl⟩
  rw [eZ] at hc ⊢
  obtain ⟨L, eL⟩ : ∃ L, q.P.length = L := ⟨_, rfl⟩
  rw [eL] at c5 hi
  obtain ⟨st, es⟩ : ∃ st, q.st = st := ⟨_, rfl⟩
  rw [es] at c3 h0 hc hlt hi ⊢
  obtain ⟨d, ed⟩ : ∃ d : Nat, i - st = d := ⟨_, rfl⟩
  have e0 : (i : Int) - (st : Int) = (d : Int) := by omega
  rw [ed] at hc hlt hi ⊢
  have e1 := tdivN d r
  have e2 := tmodN d r
  have hQ : d / r ≤ 1000 := Nat.le_trans (Nat.div_le_self d r) (by omega)
  have hM : d % r ≤ 32 := by have := Nat.mod_lt d (show 0 < r by omega); omega
  obtain ⟨Q, eQ⟩ : ∃ Q, d / r = Q := ⟨_, rfl⟩
  obtain ⟨M, eM⟩ : ∃ M, d % r = M := ⟨_, rfl⟩
  rw [eQ] at e1 hc hQ hi
  rw [eM] at e2 hlt hM ⊢
  have w1 := wrap_nat (n := Q) (by omega)
  have w2 := wrap_nat (n := M) (by omega)
  have hw2 := hq.2
  obtain ⟨C, eC⟩ : ∃ C, M * wd = C := ⟨_, rfl⟩
  have e3 : (M : Int) * (wd : Int) = (C : Int) := by rw [← Int.natCast_mul, eC]
  rw [eC] at hlt ⊢
  have w3 := wrap_nat (n := C) (by omega)
  have z' : ¬ ((r : Int) = 0) := by omega
  have z : ((r : Int) == 0) = false := by simp; omega
  have hd : d ≤ 1000 := by omega
  clear h hq er eZ eL es eQ eM eC ed
  go_enter Try.func32, Try.ntmps32
  go_wp2
  go_quiet (first | (go_at_call 43; exact Calls.quiet_of_same (k43 _)))
  go_wp2
  go_ret2
  exact ⟨by simp [e3], _, rfl⟩
end

end Go.Proofs.Ytgjjeggopeppfaa
