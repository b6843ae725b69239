/- What the program reads of a sequence: how many rows a page holds, Len, First, the last page, whether there is room. -/
import Derived.Test.YtgjjeggopeppfaaRows
import Derived.Test.YtgjjeggopeppfaaPages
import Derived.Test.YtgjjeggopeppfaaView
import Derived.Test.YtgjjeggopeppfaaOwn
import Derived.Test.YtgjjeggopeppfaaLeast
import Derived.Test.YtgjjeggopeppfaaSeqs
import Derived.Test.YtgjjeggopeppfaaSeqAt
import Derived.Test.YtgjjeggopeppfaaReadsP
import Derived.Test.YtgjjeggopeppfaaReadsQ
import Derived.WalkKit
import Derived.ProofKit
import Derived.OpenShut
import Derived.Below
import Derived.WalkLawsBesides
import Derived.Deep.QuietTactic
import Derived.BigQuiet
namespace Go.Proofs.Ytgjjeggopeppfaa
open Go.ChangeShapes Go.WideShapes Go.ChangeAt Go.RowKit
set_option linter.unusedVariables false
set_option linter.unusedSimpArgs false

theorem wrap_nat {n : Nat} (h : n ≤ 9223372036854775807) : IntKind.i64.wrap (n : Int) = n := by
  simp [IntKind.wrap, IntKind.signed, IntKind.bits]
  omega
theorem quo32 {wd : Nat} (h0 : 1 ≤ wd) (h1 : wd ≤ 32) : ∃ r : Nat, 32 / wd = r ∧ (32 : Int).tdiv (wd : Int) = (r : Int) ∧ 1 ≤ r ∧ r ≤ 32 ∧ IntKind.i64.wrap (r : Int) = (r : Int) := by
  refine ⟨32 / wd, rfl, ?_, rr_pos h0 h1, rr_le wd, wrap_nat (by have := rr_le wd; omega)⟩
  rw [show (32 : Int) = ((32 : Nat) : Int) from rfl, ← Int.ofNat_tdiv]

theorem rows_call {B : Nat} {w : World} {x b : Nat} {t : ByteArray} {wd : Nat} {q : Sq} {a : Option Addr} {c : Nat} (h : SeqAt B w x b t wd q a c) (hw : 1 ≤ wd ∧ wd ≤ 32) :
    Calls Try.prog 43 #[.pointer (some ⟨x, 0, none⟩)] w fun e w' => e = .returned (.int .i64 ((32 / wd : Nat) : Int)) ∧ w' = w := by
  have c2 := h.c2
  obtain ⟨r, er, e1, r0, r1, e2⟩ := quo32 hw.1 hw.2
  rw [er]
  have z : ((wd : Int) == 0) = false := by simp; omega
  have z' : ¬ ((wd : Int) = 0) := by omega
  obtain ⟨h0, h1⟩ := hw
  clear h er
  go_enter Try.func43, Try.ntmps43
  go_wp2
  go_ret
  exact ⟨by simp, rfl⟩

theorem len_call {B : Nat} {w : World} {x b : Nat} {t : ByteArray} {wd : Nat} {q : Sq} {a : Option Addr} {c : Nat} (h : SeqAt B w x b t wd q a c) : Calls Try.prog 23 #[.pointer (some ⟨x, 0, none⟩)] w fun e w' => e = .returned (.int .i64 q.n) ∧ w' = w := by
  have c4 := h.c4
  clear h
  go_enter Try.func23, Try.ntmps23
  go_wp2
  go_ret
  exact ⟨rfl, rfl⟩
theorem first_call {B : Nat} {w : World} {x b : Nat} {t : ByteArray} {wd : Nat} {q : Sq} {a : Option Addr} {c : Nat} (h : SeqAt B w x b t wd q a c) : Calls Try.prog 24 #[.pointer (some ⟨x, 0, none⟩)] w fun e w' => e = .returned (.int .i64 q.st) ∧ w' = w := by
  have c3 := h.c3
  clear h
  go_enter Try.func24, Try.ntmps24
  go_wp2
  go_ret
  exact ⟨rfl, rfl⟩

theorem last_call {B : Nat} {w : World} {x b : Nat} {t : ByteArray} {wd : Nat} {q : Sq} {a : Option Addr} {c : Nat} (h : SeqAt B w x b t wd q a c) (hl : 0 < q.P.length) (hm : q.P.length ≤ 1000) :
    Calls Try.prog 56 #[.pointer (some ⟨x, 0, none⟩)] w fun e w' => e = .returned (.int .i64 (lastZ q.P)) ∧ ∃ m, w' = w.drewN m := by
  have c5 := h.c5
  obtain ⟨y, rfl, hc⟩ := h.page (i := q.P.length - 1) (by omega)
  have e : lastZ q.P = q.P.getD (q.P.length - 1) 0 := rfl
  rw [← e] at hc
  obtain ⟨Z, eZ⟩ : ∃ Z, lastZ q.P = Z := ⟨_, rfl⟩
  rw [eZ] at hc ⊢
  obtain ⟨L, eL⟩ : ∃ L, q.P.length = L + 1 := ⟨q.P.length - 1, by omega⟩
  rw [eL] at c5 hc hm
  simp only [Nat.add_sub_cancel] at hc
  have eI : ((L + 1 : Nat) : Int) - 1 = (L : Int) := by omega
  clear h e eZ eL hl
  go_enter Try.func56, Try.ntmps56
  go_wp2
  go_quiet (fail)
  go_wp2
  go_ret
  exact ⟨rfl, _, rfl⟩

theorem hasRoom_call {B : Nat} {w : World} {x b : Nat} {t : ByteArray} {wd : Nat} {q : Sq} {a : Option Addr} {c : Nat} (h : SeqAt B w x b t wd q a c) (hq : SqOk wd q) :
    Calls Try.prog 55 #[.pointer (some ⟨x, 0, none⟩)] w fun e w' => e = .returned (.bool (fitB wd q)) ∧ ∃ m, w' = w.drewN m := by
  have c3 := h.c3
  have c4 := h.c4
  have c5 := h.c5
  have k := fun m => rows_call (h.drewN m) ⟨hq.w0, hq.w1⟩
  have hl := hq.len
  have hf := hq.few
  have hs := hq.st
  have r1 := rr_le wd
  unfold fitB
  obtain ⟨r, er⟩ : ∃ r : Nat, 32 / wd = r := ⟨_, rfl⟩
  rw [er] at r1 k ⊢
  obtain ⟨L, eL⟩ : ∃ L, q.P.length = L := ⟨_, rfl⟩
  rw [eL] at c5 hl ⊢
  obtain ⟨n, en⟩ : ∃ n, q.n = n := ⟨_, rfl⟩
  rw [en] at c4 hl hf hs ⊢
  obtain ⟨st, es⟩ : ∃ st, q.st = st := ⟨_, rfl⟩
  rw [es] at c3 hs ⊢
  have hL : L ≤ 1000 := by omega
  have hm : L * r ≤ 1000 * 32 := Nat.mul_le_mul hL r1
  have hm' : (L : Int) * (r : Int) ≤ 32000 := by rw [← Int.natCast_mul]; omega
  have hm0 : 0 ≤ (L : Int) * (r : Int) := by rw [← Int.natCast_mul]; omega
  clear h hq er eL en es
  go_enter Try.func55, Try.ntmps55
  go_wp2
  go_quiet (first | (go_at_call 43; exact Calls.quiet_of_same (k _)))
  go_wp2
  go_ret
  exact ⟨rfl, _, rfl⟩

end Go.Proofs.Ytgjjeggopeppfaa
