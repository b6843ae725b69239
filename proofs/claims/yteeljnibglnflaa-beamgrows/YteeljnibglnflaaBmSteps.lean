/- Calls as a region's steps. -/
import Derived.Test.YteeljnibglnflaaRows
import Derived.Test.YteeljnibglnflaaView
import Derived.Test.YteeljnibglnflaaBmZ
import Derived.Test.YteeljnibglnflaaBmAt
import Derived.Test.YteeljnibglnflaaBmTo
import Derived.Test.YteeljnibglnflaaBmSame
import Derived.Test.YteeljnibglnflaaGSameI
import Derived.Test.YteeljnibglnflaaBmRunO
import Derived.WalkKit
import Derived.ProofKit
import Derived.OpenShut
import Derived.WalkLawsBesides
import Derived.Below
import Derived.Deep.QuietTactic
import Derived.BigQuiet
import Derived.Laws.AppendOwnNone
namespace Go.Proofs.Yteeljnibglnflaa
set_option maxRecDepth 20000
open Go.ChangeShapes Go.WideShapes Go.ChangeAt Go.RowKit
set_option linter.unusedVariables false
set_option linter.unusedSimpArgs false

theorem to_stepS {W : World} {S : World → Prop} (hS : ∀ W W', S W → Below W.heap.size W W' → S W') {la : Option Addr} {n : Nat} (lc : Nat) {A : Nat → Option Addr} {C : Nat → Nat} {L : Nat → Bm} (hB : BmAt W la n A C L) (hn : n ≤ 1000) (hT : ∀ r, r < n → (L r).t.length ≤ 1000000) (hW : S W) :
    Calls Try.prog 9 #[.slice la n lc] W fun e w' => (∃ xa xc XA XC, e = .returned (.slice xa n xc) ∧ BmAt w' xa n XA XC L) ∧ Below W.heap.size W w' ∧ S w' :=
  (To_call la n lc A C L W hB hn hT).mono (by rintro e W' ⟨⟨a, c, Ar, Cr, he, hb, _, _⟩, hb'⟩; exact ⟨⟨a, c, Ar, Cr, he, hb⟩, hb', hS _ _ hW hb'⟩)
theorem from_stepS {W : World} {S : World → Prop} (hS : ∀ W W', S W → Below W.heap.size W W' → S W') {la : Option Addr} {n : Nat} (lc : Nat) {A : Nat → Option Addr} {C : Nat → Nat} {L : Nat → Bm} (hB : BmAt W la n A C L) (hn : n ≤ 1000) (hW : S W) :
    Calls Try.prog 13 #[.slice la n lc] W fun e w' => (∃ xa xc XA XC, e = .returned (.slice xa n xc) ∧ BmAt w' xa n XA XC L) ∧ Below W.heap.size W w' ∧ S w' :=
  (From_call la n lc A C L W hB hn).mono (by rintro e W' ⟨⟨a, c, Ar, Cr, he, hb, _, _⟩, hb'⟩; exact ⟨⟨a, c, Ar, Cr, he, hb⟩, hb', hS _ _ hW hb'⟩)
theorem sameB_stepS {W : World} {S : World → Prop} (hS : ∀ W W', S W → Below W.heap.size W W' → S W') {a0 : Option Addr} {n : Nat} (ca : Nat) {A : Nat → Option Addr} {C : Nat → Nat} {a1 : Option Addr} (cb : Nat) {A1 : Nat → Option Addr} {C1 : Nat → Nat} {L : Nat → Bm} (h0 : BmAt W a0 n A C L) (h1 : BmAt W a1 n A1 C1 L) (hW : S W) :
    Calls Try.prog 12 #[.slice a0 n ca, .slice a1 n cb] W fun e w' => e = .returned (.bool true) ∧ Below W.heap.size W w' ∧ S w' :=
  (sameB_call a0 n ca A C a1 cb A1 C1 L W h0 h1).mono (by rintro e W' ⟨he, m, rfl⟩; exact ⟨he, below_drew (Below.refl _ _) ⟨m, rfl⟩, hS _ _ hW (below_drew (Below.refl _ _) ⟨m, rfl⟩)⟩)
theorem sameI_stepS {W : World} {S : World → Prop} (hS : ∀ W W', S W → Below W.heap.size W W' → S W') {a0 : Option Addr} {n : Nat} (ca : Nat) {a1 : Option Addr} (cb : Nat) {zs : List Int} (h0 : Reads .i64 W a0 n zs) (h1 : Reads .i64 W a1 n zs) (hW : S W) :
    Calls Try.prog 14 #[.slice a0 n ca, .slice a1 n cb] W fun e w' => e = .returned (.bool true) ∧ Below W.heap.size W w' ∧ S w' :=
  (same_ints a0 n ca zs a1 n cb W h0 h1).mono (by rintro e W' ⟨he, m, rfl⟩; exact ⟨he, below_drew (Below.refl _ _) ⟨m, rfl⟩, hS _ _ hW (below_drew (Below.refl _ _) ⟨m, rfl⟩)⟩)
theorem run_cut27 (a : Option Addr) (n c k : Nat) (h : k ≤ n) (hc : n ≤ c) (w : World) : (Instr.sliceAt 27 (.slice a n c) none (some (.int .i64 (k : Nat))) none).run Try.prog w = .ok (.slice a k c) w := by
  have h' : (k : Int) ≤ (c : Int) := by omega
  have h'' : ¬ (c : Int) < (k : Int) := by omega
  cases a <;> go_simp
theorem run_geq3t (a b : Int) (h : b ≤ a) (w : World) : (binOp .geq 3 (.int .i64 a) (.int .i64 b)).run Try.prog w = .ok (.bool true) w := by go_simp
theorem run_eql30 (a : Int) (w : World) : (binOp .eql 30 (.int .i64 a) (.int .i64 a)).run Try.prog w = .ok (.bool true) w := by go_simp

end Go.Proofs.Yteeljnibglnflaa
