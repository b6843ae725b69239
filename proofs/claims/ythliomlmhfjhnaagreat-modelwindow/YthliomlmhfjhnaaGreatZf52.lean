/- Fewer rows, fewer tokens. -/
import Derived.Test.YthliomlmhfjhnaaGreatRows
import Derived.Test.YthliomlmhfjhnaaGreatZf0
import Derived.Test.YthliomlmhfjhnaaGreatZf28
import Derived.Test.YthliomlmhfjhnaaGreatZf32
import Derived.WalkKit
import Derived.ProofKit
import Derived.OpenShut
import Derived.Below
import Derived.WalkLawsBesides
import Derived.Deep.QuietTactic
import Derived.BigQuiet
namespace Go.Proofs.YthliomlmhfjhnaaGreat
set_option maxRecDepth 20000
open Go.ChangeShapes Go.WideShapes Go.ChangeAt Go.RowKit
set_option linter.unusedVariables false
set_option linter.unusedSimpArgs false

theorem reads_take {k : IntKind} {w : World} {a : Option Addr} {n m : Nat} {zs : List Int} (h : Reads k w a n zs) (hm : m ≤ n) : Reads k w a m (zs.take m) := by
  have hl := h.len
  have eg : ∀ i, i < m → (zs.take m).getD i 0 = zs.getD i 0 := fun i hi => by rw [List.getD_eq_getElem?_getD, List.getD_eq_getElem?_getD, List.getElem?_take_of_lt hi]
  refine ⟨by rw [List.length_take]; omega, by have := h.max; omega, fun i => ?_, fun h0 => h.some_ (by omega), fun x hx i hi => by rw [eg i hi]; exact h.cell x hx i (by omega)⟩
  by_cases hi : i < m
  · rw [eg i hi]; exact h.wf i
  · rw [List.getD_eq_getElem?_getD, List.getElem?_eq_none (by rw [List.length_take]; omega)]
    exact wf_nought k
theorem Grid.less {w : World} {a : Option Addr} {n m : Nat} {A : Nat → Option Addr} {C : Nat → Nat} {R : Nat → List Int} (h : Grid w a n A C R) (hm : m ≤ n) : Grid w a m A C R :=
  ⟨by have := h.max; omega, fun h0 => h.some_ (by omega), fun x hx r hr => h.cell x hx r (by omega), fun r hr => h.row r (by omega)⟩
theorem Grid.congr {w : World} {a : Option Addr} {n : Nat} {A : Nat → Option Addr} {C : Nat → Nat} {R R' : Nat → List Int} (h : Grid w a n A C R) (e : ∀ r, r < n → R r = R' r) : Grid w a n A C R' :=
  ⟨h.max, h.some_, fun x hx r hr => by rw [← e r hr]; exact h.cell x hx r hr, fun r hr => by rw [← e r hr]; exact h.row r hr⟩
theorem tokF_take (ts : List Int) (N j : Nat) (hj : j < N) : tokF (ts.take N) j = tokF ts j := by
  unfold tokF
  rw [List.getD_eq_getElem?_getD, List.getD_eq_getElem?_getD, List.getElem?_take_of_lt hj]
theorem runB_take {M : Md} {ts : List Int} {n N : Nat} (h : runB M ts n = true) (hN : N ≤ n) : runB M (ts.take N) N = true := by
  obtain ⟨h1, h2⟩ := runB_yes h
  unfold runB
  rw [decide_eq_true (by omega), Bool.true_and, List.all_eq_true]
  intro k hk
  have hk' := List.mem_range.1 hk
  have e : (ts.take N).getD k 0 = ts.getD k 0 := by rw [List.getD_eq_getElem?_getD, List.getD_eq_getElem?_getD, List.getElem?_take_of_lt hk']
  unfold tokB
  rw [e, decide_eq_true (h2 k (by omega)).1, decide_eq_true (h2 k (by omega)).2]
  rfl
theorem run_cut45 {ta : Option Addr} {tn tc nn : Nat} (he : ta = none → tc = 0) (hc : tn ≤ tc) (hn : nn ≤ tn) (w : World) : (Instr.sliceAt 45 (.slice ta tn tc) none (some (.int .i64 (nn : Int))) none).run Tryz.prog w = .ok (.slice ta nn tc) w := by
  have h1 : (nn : Int) ≤ (tc : Int) := by omega
  rcases ta with _ | x
  · obtain rfl : tc = 0 := he rfl
    obtain rfl : nn = 0 := by omega
    go_simp
  · go_simp

end Go.Proofs.YthliomlmhfjhnaaGreat
