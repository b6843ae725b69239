/- A reader as it lies in memory: what is left of a text, and the first error; its inner functions' contracts. -/
import Derived.Test.YtbmlafgolmmekabRows
import Derived.Test.YtbmlafgolmmekabView
import Derived.Test.YtbmlafgolmmekabOwn
import Derived.Test.YtbmlafgolmmekabTexts
import Derived.Test.YtbmlafgolmmekabSums
import Derived.Test.YtbmlafgolmmekabSeals
import Derived.WalkKit
import Derived.ProofKit
import Derived.OpenShut
import Derived.Below
import Derived.WalkLawsBesides
import Derived.Deep.QuietTactic
import Derived.BigQuiet
namespace Go.Proofs.Ytbmlafgolmmekab
open Go.ChangeShapes Go.WideShapes Go.ChangeAt Go.RowKit
set_option linter.unusedVariables false

/-- at block b lies a reader (the program's or the document's, by its type): s is left, e is its error -/
structure Rd (t : TypeId) (w : World) (b : Nat) (s : ByteArray) (e : Int) : Prop where
  heap : w.heap[b]? = some (.cells #[.string s, .int .i64 e] t (0, 0))

/-- nothing but the block b has changed; there may be more -/
def Only (b : Nat) (w w' : World) : Prop := w.grownBy w' (some b)

theorem Only.refl (b : Nat) (w : World) : Only b w w := ⟨rfl, rfl, rfl, Nat.le_refl _, fun _ _ _ => rfl⟩
theorem Only.trans {b : Nat} {w w' w'' : World} (h : Only b w w') (k : Only b w' w'') : Only b w w'' :=
  ⟨k.os.trans h.os, k.tape.trans h.tape, k.output.trans h.output, Nat.le_trans h.size k.size, fun i hi hn => (k.block i (Nat.lt_of_lt_of_le hi h.size) hn).trans (h.block i hi hn)⟩
theorem Only.set (b o : Nat) (w : World) (v : Value) : Only b w (w.setCell ⟨b, o, none⟩ v) :=
  ⟨rfl, rfl, rfl, by simp [World.setCell], fun k _ hn => Below.heap_setCell _ _ _ _ (fun e => hn (by rw [e]))⟩
theorem Only.of_below {b : Nat} {w w' : World} (h : Below w.heap.size w w') : Only b w w' := ⟨h.os, h.tape, h.output, h.size, fun k hk _ => h.block k hk⟩
theorem Only.below {B b : Nat} {w w' w'' : World} (h : Below B w w') (hB : B ≤ b) (hw : B ≤ w'.heap.size) (k : Only b w' w'') : Below B w w'' :=
  h.grown k hw (fun i hi => by obtain rfl := Option.some.inj hi; exact hB)
theorem Only.drewN {b : Nat} {w w' : World} (h : Only b w w') (m : Nat) : Only b w (w'.drewN m) := ⟨h.os, h.tape, h.output, h.size, h.block⟩

variable {t : TypeId} {w w' : World} {b : Nat} {s : ByteArray} {e : Int}
theorem Rd.lt (h : Rd t w b s e) : b < w.heap.size := (Array.getElem?_eq_some_iff.1 h.heap).1
theorem Rd.c0 (h : Rd t w b s e) : w.cell? ⟨b, 0, none⟩ = some (.string s) := by simp [World.cell?, h.heap]
theorem Rd.c1 (h : Rd t w b s e) : w.cell? ⟨b, 1, none⟩ = some (.int .i64 e) := by simp [World.cell?, h.heap]
theorem Rd.f0 (h : Rd t w b s e) : w.frozen? ⟨b, 0, none⟩ = false := by simp [World.frozen?, h.heap]
theorem Rd.f1 (h : Rd t w b s e) : w.frozen? ⟨b, 1, none⟩ = false := by simp [World.frozen?, h.heap]
theorem Rd.set0 (h : Rd t w b s e) (s' : ByteArray) : Rd t (w.setCell ⟨b, 0, none⟩ (.string s')) b s' e := ⟨by simp [World.setCell, Array.getElem?_modify, h.heap]⟩
theorem Rd.set1 (h : Rd t w b s e) (e' : Int) : Rd t (w.setCell ⟨b, 1, none⟩ (.int .i64 e')) b s e' := ⟨by simp [World.setCell, Array.getElem?_modify, h.heap]⟩
theorem Rd.new (t : TypeId) (w : World) (s : ByteArray) (e : Int) : Rd t (w.alloc (.cells #[.string s, .int .i64 e] t)) w.heap.size s e := ⟨heap_alloc_new w _⟩
theorem Rd.kept (h : Rd t w b s e) (hb : Below w.heap.size w w') : Rd t w' b s e := ⟨(hb.block b h.lt).trans h.heap⟩
theorem Rd.other {c : Nat} (h : Rd t w b s e) (hb : Only c w w') (hc : b ≠ c) : Rd t w' b s e := ⟨(hb.block b h.lt (fun x => hc (Option.some.inj x))).trans h.heap⟩
theorem Rd.drew (h : Rd t w b s e) : Rd t w.drew b s e := ⟨h.heap⟩
theorem Rd.drewN (h : Rd t w b s e) (m : Nat) : Rd t (w.drewN m) b s e := ⟨h.heap⟩
theorem Reads.other {k : IntKind} {c : Nat} {a : Option Addr} {n : Nat} {zs : List Int} (h : Reads k w a n zs) (hb : Only c w w') (hc : ∀ x, a = some x → 0 < n → x.block ≠ c) : Reads k w' a n zs :=
  ⟨h.len, h.max, h.wf, h.some_, fun x hx i hi => hb.cell (h.cell x hx i hi) (fun e => hc x hx (by omega) (by by_cases hz : i = 0 <;> simpa [Addr.add, hz] using e))⟩

theorem failed_no (h : Rd 81 w b s 0) : Calls Try.prog 47 #[.pointer (some ⟨b, 1, none⟩)] w fun e w' => e = .returned (.bool false) ∧ w' = w := by
  have c1 := h.c1
  go_enter Try.func47, Try.ntmps47
  go_wp2
  go_ret
  exact ⟨rfl, rfl⟩
theorem failed_yes (h : Rd 81 w b s e) (he : e ≠ 0) : Calls Try.prog 47 #[.pointer (some ⟨b, 1, none⟩)] w fun r w' => r = .returned (.bool true) ∧ w' = w := by
  have c1 := h.c1
  have e1 : (e != 0) = true := by simpa using he
  go_enter Try.func47, Try.ntmps47
  go_wp2
  go_ret
  exact ⟨rfl, rfl⟩

theorem fail_no (h : Rd 81 w b s 0) (x : Int) : Calls Try.prog 46 #[.pointer (some ⟨b, 1, none⟩), .int .i64 x] w fun e w' => e = .returned (.tuple #[]) ∧ w' = w.setCell ⟨b, 1, none⟩ (.int .i64 x) := by
  have c1 := h.c1
  have f1 := h.f1
  have k := failed_no h
  go_enter Try.func46, Try.ntmps46
  go_wp2_with (go_at_call 47; refine k.mono ?_; rintro e w' ⟨rfl, hw⟩; obtain rfl := hw.symm)
  go_end0
  exact ⟨rfl, rfl⟩
theorem fail_yes (h : Rd 81 w b s e) (he : e ≠ 0) (x : Int) : Calls Try.prog 46 #[.pointer (some ⟨b, 1, none⟩), .int .i64 x] w fun e w' => e = .returned (.tuple #[]) ∧ w' = w := by
  have c1 := h.c1
  have f1 := h.f1
  have k := failed_yes h he
  go_enter Try.func46, Try.ntmps46
  go_wp2_with (go_at_call 47; refine k.mono ?_; rintro e w' ⟨rfl, hw⟩; obtain rfl := hw.symm)
  go_end0
  exact ⟨rfl, rfl⟩

theorem cut_few (h : Rd 81 w b s e) (n : Int) (hn : (s.size : Int) < n) : Calls Try.prog 50 #[.pointer (some ⟨b, 0, none⟩), .int .i64 n] w fun r w' => r = .returned (.tuple #[.string ⟨#[]⟩, .bool false]) ∧ w' = w := by
  have c0 := h.c0
  go_enter Try.func50, Try.ntmps50
  go_wp2
  go_ret2
  exact ⟨rfl, rfl⟩
theorem cut_ok (h : Rd 81 w b s e) (n : Nat) (hn : n ≤ s.size) : Calls Try.prog 50 #[.pointer (some ⟨b, 0, none⟩), .int .i64 n] w fun r w' => r = .returned (.tuple #[.string (s.extract 0 n), .bool true]) ∧ w' = w.setCell ⟨b, 0, none⟩ (.string (s.extract n s.size)) := by
  have c0 := h.c0
  have f0 := h.f0
  obtain ⟨A, eA⟩ : ∃ A, s.extract 0 n = A := ⟨_, rfl⟩
  obtain ⟨B, eB⟩ : ∃ B, s.extract n s.size = B := ⟨_, rfl⟩
  rw [eA, eB]
  have hn' : (n : Int) ≤ (s.size : Int) := by omega
  go_enter Try.func50, Try.ntmps50
  go_wp2
  go_ret2
  exact ⟨rfl, rfl⟩

theorem take_bad (h : Rd 81 w b s e) (he : e ≠ 0) (n : Int) : Calls Try.prog 45 #[.pointer (some ⟨b, 0, none⟩), .int .i64 n] w fun r w' => r = .returned (.tuple #[.string ⟨#[]⟩, .bool false]) ∧ w' = w := by
  have k := failed_yes h he
  go_enter Try.func45, Try.ntmps45
  go_wp2_with (go_at_call 47; refine k.mono ?_; rintro e w' ⟨rfl, hw⟩; obtain rfl := hw.symm)
  go_ret2
  exact ⟨rfl, rfl⟩
theorem take_few (h : Rd 81 w b s 0) (n : Int) (hn : (s.size : Int) < n) : Calls Try.prog 45 #[.pointer (some ⟨b, 0, none⟩), .int .i64 n] w fun r w' => r = .returned (.tuple #[.string ⟨#[]⟩, .bool false]) ∧ w' = w.setCell ⟨b, 1, none⟩ (.int .i64 22) := by
  have k := failed_no h
  have k1 := cut_few h n hn
  have k2 := fail_no h 22
  go_enter Try.func45, Try.ntmps45
  go_wp2_with (first
    | (go_at_call 47; refine k.mono ?_; rintro e w' ⟨rfl, hw⟩; obtain rfl := hw.symm)
    | (go_at_call 50; refine k1.mono ?_; rintro e w' ⟨rfl, hw⟩; obtain rfl := hw.symm)
    | (go_at_call 46; refine k2.mono ?_; rintro e w' ⟨rfl, hw⟩; subst hw))
  go_ret2
  exact ⟨rfl, rfl⟩
theorem take_ok (h : Rd 81 w b s 0) (n : Nat) (hn : n ≤ s.size) : Calls Try.prog 45 #[.pointer (some ⟨b, 0, none⟩), .int .i64 n] w fun r w' => r = .returned (.tuple #[.string (s.extract 0 n), .bool true]) ∧ w' = w.setCell ⟨b, 0, none⟩ (.string (s.extract n s.size)) := by
  have k := failed_no h
  have k1 := cut_ok h n hn
  obtain ⟨A, eA⟩ : ∃ A, s.extract 0 n = A := ⟨_, rfl⟩
  obtain ⟨B, eB⟩ : ∃ B, s.extract n s.size = B := ⟨_, rfl⟩
  rw [eA, eB] at k1 ⊢
  go_enter Try.func45, Try.ntmps45
  go_wp2_with (first
    | (go_at_call 47; refine k.mono ?_; rintro e w' ⟨rfl, hw⟩; obtain rfl := hw.symm)
    | (go_at_call 50; refine k1.mono ?_; rintro e w' ⟨rfl, hw⟩; subst hw))
  go_ret2
  exact ⟨rfl, rfl⟩

theorem newReader_call (s : ByteArray) (w : World) : Calls Try.prog 37 #[.string s] w fun r w' => r = .returned (.pointer (some ⟨w.heap.size, 0, none⟩)) ∧ w' = w.alloc (.cells #[.string s, .int .i64 0] 81) := by
  go_enter Try.func37, Try.ntmps37
  go_wp2
  go_ret
  exact ⟨rfl, rfl⟩

end Go.Proofs.Ytbmlafgolmmekab
