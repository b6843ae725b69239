/- The document's Grow whatever comes; single operations. -/
import Derived.Test.YteeljnibglnflaaRows
import Derived.Test.YteeljnibglnflaaView
import Derived.Test.YteeljnibglnflaaBmZ
import Derived.Test.YteeljnibglnflaaBmAt
import Derived.Test.YteeljnibglnflaaGMean
import Derived.Test.YteeljnibglnflaaBmRefZ
import Derived.Test.YteeljnibglnflaaBmRefE
import Derived.Test.YteeljnibglnflaaBmRefG
import Derived.WalkKit
import Derived.ProofKit
import Derived.OpenShut
import Derived.WalkLawsBesides
import Derived.Below
import Derived.Deep.QuietTactic
import Derived.BigQuiet
import Derived.Laws.AppendOwnNone
namespace Go.Proofs.Yteeljnibglnflaa
set_option maxRecDepth 20000
open Go.ChangeShapes Go.WideShapes Go.ChangeAt Go.RowKit
set_option linter.unusedVariables false
set_option linter.unusedSimpArgs false

theorem refGrow_call (a0 : Option Addr) (n ca : Nat) (A : Nat → Option Addr) (C : Nat → Nat) (L : Nat → Bm) (a1 : Option Addr) (m cb : Nat) (A1 : Nat → Option Addr) (C1 : Nat → Nat) (R : Nat → List Int) (width len stop : Int) (w : World)
    (h0 : BmAt w a0 n A C L) (h1 : Grid w a1 m A1 C1 R) (hR : ∀ r, r < m → (R r).length ≤ 1000) (hn : n ≤ 1000) (hT : ∀ r, r < n → (L r).t.length ≤ 1000000) :
    Calls Try.prog 11 #[.slice a0 n ca, .slice a1 m cb, .int .i64 width, .int .i64 len, .int .i64 stop] w fun e w' => RefAns w' e L n R m width len stop ∧ Below w.heap.size w w' := by
  by_cases hE : growE L n R m width = 0
  · exact refGrow_yes a0 n ca A C L a1 m cb A1 C1 R width len stop w h0 h1 hE hR hn hT
  · refine (refGrow_no a0 n ca A C L a1 m cb A1 C1 R width len stop w h0 h1 hE).mono ?_
    rintro e w' ⟨rfl, hb⟩
    refine ⟨?_, hb⟩
    have eL : growL L n R m width len stop = [] := by unfold growL; rw [if_neg hE]
    unfold RefAns
    rw [eL]
    exact ⟨none, none, 0, 0, (fun _ => none), (fun _ => 0), rfl, BmAt.nil_ _ _ _ _, Reads.nil _ _⟩
theorem run_neq30 (a : Int) (w : World) : (binOp .neq 30 (.int .i64 a) (.int .i64 a)).run Try.prog w = .ok (.bool false) w := by go_simp
theorem run_load40 {w : World} {y : Addr} {a : Option Addr} {n c : Nat} {s : Int} {f : Bool} (h0 : w.cell? y = some (.slice a n c)) (h1 : w.cell? ⟨y.block, y.off + 1, none⟩ = some (.int .i64 s)) (h2 : w.cell? ⟨y.block, y.off + 2, none⟩ = some (.bool f)) : (Instr.loadAt 40 (.pointer (some y))).run Try.prog w = .ok (.agg #[.slice a n c, .int .i64 s, .bool f]) w := by go_simp
theorem run_load42 {w : World} {y : Addr} {a : Option Addr} {n c : Nat} {s : Int} {f : Bool} (h0 : w.cell? y = some (.slice a n c)) (h1 : w.cell? ⟨y.block, y.off + 1, none⟩ = some (.int .i64 s)) (h2 : w.cell? ⟨y.block, y.off + 2, none⟩ = some (.bool f)) : (Instr.loadAt 42 (.pointer (some y))).run Try.prog w = .ok (.agg #[.slice a n c, .int .i64 s, .bool f]) w := by go_simp

end Go.Proofs.Yteeljnibglnflaa
