/- Single operations on a case; calls as a region's steps. -/
import Derived.Test.YteeljnibglnflaaRows
import Derived.Test.YteeljnibglnflaaView
import Derived.Test.YteeljnibglnflaaBmZ
import Derived.Test.YteeljnibglnflaaBmAt
import Derived.Test.YteeljnibglnflaaGMean
import Derived.Test.YteeljnibglnflaaBmGrow
import Derived.Test.YteeljnibglnflaaBmTo
import Derived.Test.YteeljnibglnflaaBmBox
import Derived.WalkKit
import Derived.ProofKit
import Derived.OpenShut
import Derived.WalkLawsBesides
import Derived.Below
import Derived.Deep.QuietTactic
import Derived.BigQuiet
import Derived.Laws.AppendOwnNone
namespace Go.Proofs.Yteeljnibglnflaa
set_option maxRecDepth 20000
open Go.ChangeShapes Go.WideShapes Go.ChangeAt Go.RowKit
set_option linter.unusedVariables false
set_option linter.unusedSimpArgs false

theorem run_load22 {w : World} {p : Addr} {a : Option Addr} {n c : Nat} (h : w.cell? p = some (.slice a n c)) : (Instr.loadAt 22 (.pointer (some p))).run Try.prog w = .ok (.slice a n c) w := by go_simp
theorem run_load23 {w : World} {p : Addr} {a : Option Addr} {n c : Nat} (h : w.cell? p = some (.slice a n c)) : (Instr.loadAt 23 (.pointer (some p))).run Try.prog w = .ok (.slice a n c) w := by go_simp
theorem run_load3 {w : World} {p : Addr} {z : Int} (h : w.cell? p = some (.int .i64 z)) : (Instr.loadAt 3 (.pointer (some p))).run Try.prog w = .ok (.int .i64 z) w := by go_simp
theorem run_field25_0 (b : Nat) (w : World) : (Instr.fieldAt 25 (.pointer (some ⟨b, 0, none⟩)) 0).run Try.prog w = .ok (.pointer (some ⟨b, 0, none⟩)) w := by go_simp
theorem run_field25_1 (b : Nat) (w : World) : (Instr.fieldAt 25 (.pointer (some ⟨b, 0, none⟩)) 1).run Try.prog w = .ok (.pointer (some ⟨b, 1, none⟩)) w := by go_simp
theorem run_field25_2 (b : Nat) (w : World) : (Instr.fieldAt 25 (.pointer (some ⟨b, 0, none⟩)) 2).run Try.prog w = .ok (.pointer (some ⟨b, 2, none⟩)) w := by go_simp
theorem run_field25_3 (b : Nat) (w : World) : (Instr.fieldAt 25 (.pointer (some ⟨b, 0, none⟩)) 3).run Try.prog w = .ok (.pointer (some ⟨b, 3, none⟩)) w := by go_simp
theorem run_field25_4 (b : Nat) (w : World) : (Instr.fieldAt 25 (.pointer (some ⟨b, 0, none⟩)) 4).run Try.prog w = .ok (.pointer (some ⟨b, 4, none⟩)) w := by go_simp
theorem run_field25_5 (b : Nat) (w : World) : (Instr.fieldAt 25 (.pointer (some ⟨b, 0, none⟩)) 5).run Try.prog w = .ok (.pointer (some ⟨b, 5, none⟩)) w := by go_simp

/-- To of the beams, as a region's step -/
theorem to_step {w W : World} {bx : Nat} {la : Option Addr} {n lc : Nat} {A : Nat → Option Addr} {C : Nat → Nat} {L : Nat → Bm} {ra : Option Addr} {m rc : Nat} {Wd Ln St Pn : Int} (hB : BmAt w la n A C L) (hn : n ≤ 1000) (hT : ∀ r, r < n → (L r).t.length ≤ 1000000) (hW : Below w.heap.size w W ∧ Box W bx la n lc ra m rc Wd Ln St Pn) :
    Calls Try.prog 9 #[.slice la n lc] W fun e w' => (∃ xa xc XA XC, e = .returned (.slice xa n xc) ∧ BmAt w' xa n XA XC L) ∧ Below W.heap.size W w' ∧ (Below w.heap.size w w' ∧ Box w' bx la n lc ra m rc Wd Ln St Pn) :=
  (To_call la n lc A C L W (hB.below hW.1) hn hT).mono (by rintro e W' ⟨⟨a, c, Ar, Cr, he, hb, _, _⟩, hb'⟩; exact ⟨⟨a, c, Ar, Cr, he, hb⟩, hb', below_then hW.1 hb', hW.2.below hb'⟩)

/-- Grow of them, as a region's step; what else the world holds is kept -/
theorem grow_step {W : World} {S : World → Prop} (hS : ∀ W W', S W → Below W.heap.size W W' → S W') {n : Nat} {L : Nat → Bm} {ra : Option Addr} {m rc : Nat} {A1 : Nat → Option Addr} {C1 : Nat → Nat} {R : Nat → List Int} {Wd Ln St : Int} {xa : Option Addr} {xc : Nat} {XA : Nat → Option Addr} {XC : Nat → Nat} (hb : BmAt W xa n XA XC L) (hG : Grid W ra m A1 C1 R) (rl : m ≤ rc) (hR : ∀ r, r < m → (R r).length ≤ 1000) (hn : n ≤ 1000) (hT : ∀ r, r < n → (L r).t.length ≤ 1000000) (hW : S W) :
    Calls Try.prog 10 #[.slice xa n xc, .slice ra m rc, .int .i64 Wd, .int .i64 Ln, .int .i64 St] W fun e w' => (∃ ya yb yc yd Ar Cr, e = .returned (.tuple #[.slice ya (growL L n R m Wd Ln St).length yc, .slice yb (growL L n R m Wd Ln St).length yd, .int .i64 (growE L n R m Wd)]) ∧ (growL L n R m Wd Ln St).length ≤ yc ∧ (growL L n R m Wd Ln St).length ≤ yd ∧ BmC w' ya (growL L n R m Wd Ln St).length Ar Cr (growB L (growL L n R m Wd Ln St)) ∧ Reads .i64 w' yb (growL L n R m Wd Ln St).length (growP (growL L n R m Wd Ln St))) ∧ Below W.heap.size W w' ∧ S w' :=
  (Grow_call xa n xc XA XC L ra m rc A1 C1 R Wd Ln St W hb hG rl hR hn hT).mono (by rintro e W' ⟨⟨ya, yb, yc, yd, Ar, Cr, he, h1, h2, _, ⟨_, h4⟩, h5, h6⟩, hb'⟩; exact ⟨⟨ya, yb, yc, yd, Ar, Cr, he, h1, h2, ⟨h5, h4⟩, h6⟩, hb', hS _ _ hW hb'⟩)

end Go.Proofs.Yteeljnibglnflaa
