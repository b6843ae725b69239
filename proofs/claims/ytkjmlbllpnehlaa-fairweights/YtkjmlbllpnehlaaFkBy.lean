/- Rows of structs of a few numbers: appended to, and taken out of. -/
import Derived.Test.YtkjmlbllpnehlaaRows
import Derived.Test.YtkjmlbllpnehlaaView
import Derived.Test.YtkjmlbllpnehlaaOwn
import Derived.Test.YtkjmlbllpnehlaaBase
import Derived.Test.YtkjmlbllpnehlaaFkZ
import Derived.WalkKit
import Derived.ProofKit
import Derived.OpenShut
import Derived.Below
import Derived.WalkLawsBesides
import Derived.Deep.QuietTactic
import Derived.BigQuiet
import Derived.Maps.AppendAt
import Derived.OwnWalk
import Derived.Lib.SliceRun
import Derived.ArgAppend
namespace Go.Proofs.Ytkjmlbllpnehlaa
set_option maxRecDepth 20000
open Go.ChangeShapes Go.WideShapes Go.ChangeAt Go.RowKit
set_option linter.unusedVariables false
set_option linter.unusedSimpArgs false

def byF (f : It → List Value) (l : List It) : List Value := l.flatMap f
def thF (x : It) : List Value := [.int .i64 x.id, .int .i64 x.co]
def itF (x : It) : List Value := [.int .i64 (x.t : Int), .int .i64 x.id, .int .i64 x.co]
/-- a type of slices of such structs -/
structure Knd (t e q : Nat) (f : It → List Value) : Prop where
  und : Try.prog.underlying t = some (.slice e)
  info : ∃ i z, Try.prog.info? e = some i ∧ i.zero = some z ∧ i.size = q ∧ i.bytes = 8 * q ∧ z.cells.size = q ∧ (∀ u ∈ z.cells.toList, u = .int .i64 0)
  zv : ∃ z, (∀ w, (zeroValue e).run Try.prog w = .ok z w) ∧ z.cells.size = q ∧ (∀ u ∈ z.cells.toList, u = .int .i64 0)
  q0 : 0 < q
  q3 : q ≤ 3
  len : ∀ x, (f x).length = q
  one : ∀ x, ∀ u ∈ f x, u.oneCell' = true
theorem info63 : (Try.prog.info? 63).map (fun i => (i.zero, i.size, i.bytes)) = some (some (.agg #[.int .i64 0, .int .i64 0]), 2, 16) := by kernel_rfl
theorem info47 : (Try.prog.info? 47).map (fun i => (i.zero, i.size, i.bytes)) = some (some (.agg #[.int .i64 0, .int .i64 0, .int .i64 0]), 3, 24) := by kernel_rfl
theorem knd_th : Knd 53 63 2 thF := by
  refine ⟨Try.underlying53, ?_, ⟨.agg #[.int .i64 0, .int .i64 0], fun w => by go_simp, rfl, by simp [Value.cells]⟩, by decide, by decide, fun x => rfl, fun x u hu => ?_⟩
  · obtain ⟨i, hi, hz⟩ := Option.map_eq_some_iff.1 info63
    simp only [Prod.mk.injEq] at hz
    exact ⟨i, _, hi, hz.1, hz.2.1, hz.2.2, rfl, by simp [Value.cells]⟩
  · simp only [thF, List.mem_cons, List.not_mem_nil, or_false] at hu
    rcases hu with rfl | rfl <;> rfl
theorem knd_it : Knd 45 47 3 itF := by
  refine ⟨Try.underlying45, ?_, ⟨.agg #[.int .i64 0, .int .i64 0, .int .i64 0], fun w => by go_simp, rfl, by simp [Value.cells]⟩, by decide, by decide, fun x => rfl, fun x u hu => ?_⟩
  · obtain ⟨i, hi, hz⟩ := Option.map_eq_some_iff.1 info47
    simp only [Prod.mk.injEq] at hz
    exact ⟨i, _, hi, hz.1, hz.2.1, hz.2.2, rfl, by simp [Value.cells]⟩
  · simp only [itF, List.mem_cons, List.not_mem_nil, or_false] at hu
    rcases hu with rfl | rfl | rfl <;> rfl
theorem by_len {t e q : Nat} {f : It → List Value} (K : Knd t e q f) (l : List It) : (byF f l).length = l.length * q := by
  unfold byF
  induction l with
  | nil => simp
  | cons x r ih => rw [List.flatMap_cons, List.length_append, ih, K.len, List.length_cons, Nat.add_mul]; omega
theorem by_append {f : It → List Value} (l m : List It) : byF f (l ++ m) = byF f l ++ byF f m := by simp [byF]
theorem by_cons {f : It → List Value} (x : It) (m : List It) : byF f (x :: m) = f x ++ byF f m := by simp [byF]
theorem by_at {t e q : Nat} {f : It → List Value} (K : Knd t e q f) {l : List It} {i : Nat} {x : It} (h : l[i]? = some x) {j : Nat} (hj : j < q) : (byF f l)[i * q + j]? = (f x)[j]? := by
  induction l generalizing i with
  | nil => cases h
  | cons u r ih =>
    rw [by_cons]
    cases i with
    | zero =>
      obtain rfl : u = x := by simpa using h
      rw [Nat.zero_mul, Nat.zero_add, List.getElem?_append_left (by rw [K.len]; exact hj)]
    | succ i =>
      have e1 : (i + 1) * q + j = q + (i * q + j) := by rw [Nat.add_mul]; omega
      rw [e1, List.getElem?_append_right (by rw [K.len]; omega), K.len, Nat.add_sub_cancel_left]
      exact ih (by simpa using h)
theorem by_take {t e q : Nat} {f : It → List Value} (K : Knd t e q f) (l : List It) (i : Nat) : (byF f l).take (i * q) = byF f (l.take i) := by
  induction l generalizing i with
  | nil => simp [byF]
  | cons x r ih =>
    cases i with
    | zero => simp [byF]
    | succ i =>
      rw [List.take_succ_cons, by_cons, by_cons, ← ih, List.take_append, K.len, show (i + 1) * q - q = i * q by rw [Nat.add_mul]; omega, List.take_of_length_le (by rw [K.len, Nat.add_mul]; omega)]
theorem by_drop {t e q : Nat} {f : It → List Value} (K : Knd t e q f) (l : List It) (i : Nat) : (byF f l).drop (i * q) = byF f (l.drop i) := by
  induction l generalizing i with
  | nil => simp [byF]
  | cons x r ih =>
    cases i with
    | zero => simp [byF]
    | succ i =>
      rw [List.drop_succ_cons, by_cons, ← ih, List.drop_append, K.len, show (i + 1) * q - q = i * q by rw [Nat.add_mul]; omega, List.drop_of_length_le (by rw [K.len, Nat.add_mul]; omega), List.nil_append]
theorem by_one {t e q : Nat} {f : It → List Value} (K : Knd t e q f) (l : List It) : ∀ u ∈ byF f l, u.oneCell' = true := by
  intro u hu
  obtain ⟨x, _, hx⟩ := List.mem_flatMap.1 hu
  exact K.one x u hx
theorem own_formq {e q : Nat} {w : World} {B : Nat} {v : Value} {n : Nat} {cs : List Value} (h : w.ownsRow B e q v n cs) : ∃ a c, v = .slice a n c ∧ n ≤ c ∧ c ≤ 9223372036854775807 := by
  rcases h.2 with ⟨h1, h2⟩ | ⟨g, cap, cur, h1, h2, h3, h4, h5, _⟩
  · exact ⟨none, 0, by rw [h1, h2], by omega, by omega⟩
  · exact ⟨_, _, h1, h4, by unfold maxLen at h5; exact h5⟩
/-- structs that lie somewhere are laid behind a row of them -/
theorem append_by {t e q : Nat} {f : It → List Value} (K : Knd t e q f) {B : Nat} {w : World} {a : Option Addr} {n c : Nat} {D E : List It} (hown : w.ownsRow B e q (.slice a n c) n (byF f D)) (hB : B ≤ w.heap.size) (X : Addr) (m xc : Nat) (hm : E.length = m) (hE : ∀ j u, (byF f E)[j]? = some u → w.cell? (X.add j) = some u) (hn : n ≤ 100000) (hm' : m ≤ 100000) (ty : TypeId) :
    ∃ a' c' W, (Builtin.append_ #[t, t] ty #[.slice a n c, .slice (some X) m xc]).run Try.prog w = .ok (.slice a' (n + m) c') W ∧ W.ownsRow B e q (.slice a' (n + m) c') (n + m) (byF f (D ++ E)) ∧ Below B w W ∧ OffS B (fun _ => false) (blkOf a) w W ∧ (∀ k, blkOf a' k → blkOf a k ∨ k = w.heap.size) := by
  obtain ⟨i0, z, hi, hz0, hz1, hz2, hz3, hz4⟩ := K.info
  have hq := K.q3
  obtain ⟨v', w', hr, ho, hg, h4, h5⟩ := run_append_own_at (P := Try.prog) (w := w) B t ty e i0 z q (8 * q) K.und hi hz0 hz1 hz2 hz3 K.q0 _ n _ hown X m xc (byF f E) (by rw [by_len K, hm]) hE (by_one K E) (by unfold maxLen; omega) (by
    have : (n + m) * (8 * q) ≤ 200000 * 24 := Nat.mul_le_mul (by omega) (by omega)
    omega) hB
  obtain ⟨a', c', rfl, -, -⟩ := own_formq ho
  rw [← by_append] at ho
  have hbl := (Below.refl B w).grown hg hB (fun k e => (hown.lt k e).1)
  refine ⟨a', c', w', hr, ho, hbl, ⟨hbl.os, hbl.tape, hbl.output, hbl.size, fun k hk hc => hc.elim (fun q => hbl.block k q) fun q => hg.block k hk fun e => q.1 ?_⟩, fun k hk => ?_⟩
  · cases a with
    | none => cases e
    | some q' => exact ⟨q', rfl, Eq.symm (by simpa [Value.ownBlock] using e)⟩
  · obtain ⟨y, rfl, rfl⟩ := hk
    rcases h5 with h5 | h5
    · cases a with
      | none => cases h5
      | some q' =>
        refine .inl ⟨q', rfl, ?_⟩
        simpa [Value.ownBlock] using h5.symm
    · refine .inr ?_
      simpa [Value.ownBlock] using h5
/-- 'clear' of a part of a row -/
theorem clear_by {t e q : Nat} {f : It → List Value} (K : Knd t e q f) (w : World) (ty : TypeId) (b o n c : Nat) (hn : 0 < n) (hc : ∀ j, j < n * q → (w.cell? ⟨b, o + j, none⟩).isSome = true) (hf : ∀ j, j < n * q → w.frozen? ⟨b, o + j, none⟩ = false) :
    ∃ vs : List Value, vs.length = n * q ∧ (Builtin.clear_ #[t] ty #[.slice (some ⟨b, o, none⟩) n c]).run Try.prog w = .ok (.tuple #[]) (w.setCells b o vs) := by
  obtain ⟨z, hv, hz1, hz2⟩ := K.zv
  refine ⟨(Builtin.zeroCells z.cells n).toList, by rw [Array.length_toList, size_zeroCells, hz1], ?_⟩
  have hst := run_storeCells_cells (P := Try.prog) b o (Builtin.zeroCells z.cells n).toList 0 w (by rw [Array.length_toList, size_zeroCells, hz1]; simpa using hc) (by rw [Array.length_toList, size_zeroCells, hz1]; simpa using hf) (by
    intro v hv'
    have : v ∈ Builtin.zeroCells z.cells n := by simpa using hv'
    simp only [Builtin.zeroCells, Array.mem_map] at this
    obtain ⟨i, -, rfl⟩ := this
    by_cases h : i % z.cells.size < z.cells.size
    · have hm := hz2 (z.cells[i % z.cells.size]) (by simp)
      simp [h, hm, Value.oneCell']
    · have hp : 0 < z.cells.size := by rw [hz1]; exact K.q0
      exact absurd (Nat.mod_lt _ hp) h)
  simp only [Nat.add_zero] at hst
  obtain ⟨m, rfl⟩ : ∃ m, n = m + 1 := ⟨n - 1, by omega⟩
  simp [Builtin.clear_, run_underlying K.und, hv, hst]

end Go.Proofs.Ytkjmlbllpnehlaa
