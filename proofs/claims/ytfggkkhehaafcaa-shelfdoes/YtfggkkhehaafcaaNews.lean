/- New of the program and of the document: their contracts. -/
import Derived.Test.YtfggkkhehaafcaaRows
import Derived.Test.YtfggkkhehaafcaaPages
import Derived.Test.YtfggkkhehaafcaaView
import Derived.Test.YtfggkkhehaafcaaOwn
import Derived.Test.YtfggkkhehaafcaaReadsP
import Derived.Test.YtfggkkhehaafcaaReadsQ
import Derived.Test.YtfggkkhehaafcaaRefPg
import Derived.Test.YtfggkkhehaafcaaLeast
import Derived.Test.YtfggkkhehaafcaaLays
import Derived.WalkKit
import Derived.ProofKit
import Derived.OpenShut
import Derived.Below
import Derived.WalkLawsBesides
import Derived.Deep.QuietTactic
import Derived.BigQuiet
import Derived.Laws.MakeOwn
namespace Go.Proofs.Ytfggkkhehaafcaa
open Go.ChangeShapes Go.WideShapes Go.ChangeAt Go.RowKit
set_option linter.unusedVariables false

/-- a new pool -/
def newPl (n : Nat) : Pl := ⟨n, fun _ => ⟨⟨#[]⟩, 0, fun _ => 0⟩, 0⟩

def z34 : List Value := .string ⟨#[]⟩ :: List.replicate 33 (.int .i64 0)
def z3 : List Value := [.string ⟨#[]⟩, .int .i64 0, .slice none 0 0]

theorem info93z : ∃ i, Try.prog.info? 93 = some i ∧ i.zero = some (.agg z34.toArray) ∧ i.size = 34 ∧ i.bytes = 280 := by
  have h : (Try.prog.info? 93).map (fun i => (i.zero, i.size, i.bytes)) = some (some (.agg z34.toArray), 34, 280) := by kernel_rfl
  obtain ⟨i, hi, hz⟩ := Option.map_eq_some_iff.1 h
  simp only [Prod.mk.injEq] at hz
  exact ⟨i, hi, hz.1, hz.2.1, hz.2.2⟩
theorem info101z : ∃ i, Try.prog.info? 101 = some i ∧ i.zero = some (.agg z3.toArray) ∧ i.size = 3 ∧ i.bytes = 48 := by
  have h : (Try.prog.info? 101).map (fun i => (i.zero, i.size, i.bytes)) = some (some (.agg z3.toArray), 3, 48) := by kernel_rfl
  obtain ⟨i, hi, hz⟩ := Option.map_eq_some_iff.1 h
  simp only [Prod.mk.injEq] at hz
  exact ⟨i, hi, hz.1, hz.2.1, hz.2.2⟩

def zeros34 (n : Nat) : Obj := .cells (madeCells z34.toArray (n * 34)) 93
def zeros3 (n : Nat) : Obj := .cells (madeCells z3.toArray (n * 3)) 101

theorem made34 (n : Nat) (hn : n ≤ 256) (w : World) : (Instr.makeSlice 63 (.int .i64 (n : Int)) (.int .i64 (n : Int))).run Try.prog w = .ok (.slice (some ⟨w.heap.size, 0, none⟩) n n) (w.alloc (zeros34 n)) := by
  obtain ⟨i, hi, hz, hs, hb⟩ := info93z
  have := run_make (P := Try.prog) w 63 93 i _ Try.underlying63 hi hz .i64 .i64 n n (by omega) (by omega) (by rw [hb]; omega) (by omega)
  rw [hs] at this
  simp only [Int.toNat_natCast] at this
  exact this
theorem made3 (n : Nat) (hn : n ≤ 256) (w : World) : (Instr.makeSlice 66 (.int .i64 (n : Int)) (.int .i64 (n : Int))).run Try.prog w = .ok (.slice (some ⟨w.heap.size, 0, none⟩) n n) (w.alloc (zeros3 n)) := by
  obtain ⟨i, hi, hz, hs, hb⟩ := info101z
  have := run_make (P := Try.prog) w 66 101 i _ Try.underlying66 hi hz .i64 .i64 n n (by omega) (by omega) (by rw [hb]; omega) (by omega)
  rw [hs] at this
  simp only [Int.toNat_natCast] at this
  exact this

theorem made_at (w : World) (z : List Value) (k m i j : Nat) (t : TypeId) (v : Value) (hk : z.length = k) (hj : j < k) (hi : i * k + j < m) (hv : z[j]? = some v) : (w.alloc (.cells (madeCells z.toArray m) t)).cell? ⟨w.heap.size, i * k + j, none⟩ = some v := by
  have e : (w.alloc (.cells (madeCells z.toArray m) t)).heap[w.heap.size]? = some (.cells (madeCells z.toArray m) t) := heap_alloc_new w _
  unfold World.cell?
  rw [e]
  have e1 : (i * k + j) % z.toArray.size = j := by
    rw [List.size_toArray, hk, Nat.add_comm, Nat.add_mul_mod_self_right, Nat.mod_eq_of_lt hj]
  have e2 : z.toArray[j]! = v := by
    obtain ⟨h1, h2⟩ := List.getElem?_eq_some_iff.1 hv
    simp [h1, h2]
  simp only [madeCells, Option.isSome_none, Bool.false_eq_true, if_false]
  rw [Array.getElem?_map, Array.getElem?_range, if_pos hi, Option.map_some, e1, e2]

theorem z34_len : z34.length = 34 := rfl
theorem z34_at (j : Nat) (h : j < 33) : z34[j + 1]? = some (.int .i64 0) := by
  show (List.replicate 33 (Value.int .i64 0))[j]? = _
  rw [List.getElem?_replicate, if_pos h]

theorem new_pool (B : Nat) (w : World) (n : Nat) (hB : B ≤ w.heap.size) (o : Array Value) (ho : o = #[.slice (some ⟨w.heap.size, 0, none⟩) n n, .int .i64 0]) :
    PoolAt B ((w.alloc (zeros34 n)).alloc (.cells o 65)) (w.heap.size + 1) w.heap.size (newPl n) := by
  subst ho
  have hs : (w.alloc (zeros34 n)).heap.size = w.heap.size + 1 := by simp
  have hb := below_new (Below.refl _ (w.alloc (zeros34 n))) (.cells #[.slice (some ⟨w.heap.size, 0, none⟩) n n, .int .i64 0] 65)
  have e : ((w.alloc (zeros34 n)).alloc (.cells #[.slice (some ⟨w.heap.size, 0, none⟩) n n, .int .i64 0] 65)).heap[w.heap.size + 1]? = some (.cells #[.slice (some ⟨w.heap.size, 0, none⟩) n n, .int .i64 0] 65) := by
    rw [← hs]
    exact heap_alloc_new _ _
  have eg : ((w.alloc (zeros34 n)).alloc (.cells #[.slice (some ⟨w.heap.size, 0, none⟩) n n, .int .i64 0] 65)).heap[w.heap.size]? = (w.alloc (zeros34 n)).heap[w.heap.size]? := hb.block _ (by omega)
  have r1 : Row 93 (w.alloc (zeros34 n)) w.heap.size (n * 34) := ⟨_, heap_alloc_new w _, size_madeCells _ _⟩
  refine ⟨by omega, hB, ⟨_, e, rfl⟩, ?_, ?_, r1.of_block eg, fun i hi => ⟨?_, ?_, fun j hj => ?_⟩⟩
  · unfold World.cell?
    rw [e]
    rfl
  · unfold World.cell?
    rw [e]
    rfl
  · rw [cell_of_block eg]
    exact made_at w z34 34 (n * 34) i 0 93 _ rfl (by omega) (by have : i < n := hi; omega) rfl
  · rw [cell_of_block eg]
    exact made_at w z34 34 (n * 34) i 1 93 _ rfl (by omega) (by have : i < n := hi; omega) rfl
  · rw [cell_of_block eg, Nat.add_assoc]
    exact made_at w z34 34 (n * 34) i (2 + j) 93 _ rfl (by omega) (by have : i < n := hi; omega) (by rw [show 2 + j = (j + 1) + 1 by omega]; exact z34_at (j + 1) (by omega))

theorem new_ref (B : Nat) (w : World) (n : Nat) (hB : B ≤ w.heap.size) (o : Array Value) (ho : o = #[.slice (some ⟨w.heap.size, 0, none⟩) n n, .int .i64 0]) :
    RefAt B ((w.alloc (zeros3 n)).alloc (.cells o 68)) (w.heap.size + 1) w.heap.size (newPl n) (fun _ => 0) := by
  subst ho
  have hs : (w.alloc (zeros3 n)).heap.size = w.heap.size + 1 := by simp
  have hb := below_new (Below.refl _ (w.alloc (zeros3 n))) (.cells #[.slice (some ⟨w.heap.size, 0, none⟩) n n, .int .i64 0] 68)
  have e : ((w.alloc (zeros3 n)).alloc (.cells #[.slice (some ⟨w.heap.size, 0, none⟩) n n, .int .i64 0] 68)).heap[w.heap.size + 1]? = some (.cells #[.slice (some ⟨w.heap.size, 0, none⟩) n n, .int .i64 0] 68) := by
    rw [← hs]
    exact heap_alloc_new _ _
  have eg : ((w.alloc (zeros3 n)).alloc (.cells #[.slice (some ⟨w.heap.size, 0, none⟩) n n, .int .i64 0] 68)).heap[w.heap.size]? = (w.alloc (zeros3 n)).heap[w.heap.size]? := hb.block _ (by omega)
  have r1 : Row 101 (w.alloc (zeros3 n)) w.heap.size (n * 3) := ⟨_, heap_alloc_new w _, size_madeCells _ _⟩
  refine ⟨by omega, hB, ⟨_, e, rfl⟩, ?_, ?_, r1.of_block eg, fun i hi => ?_, fun i hi => ?_, fun i hi h => absurd rfl h, fun i hi h => absurd rfl h, fun i hi h => absurd rfl h, fun i hi j hj h => absurd rfl h⟩
  · unfold World.cell?
    rw [e]
    rfl
  · unfold World.cell?
    rw [e]
    rfl
  · rw [cell_of_block eg]
    exact made_at w z3 3 (n * 3) i 0 101 _ rfl (by omega) (by have : i < n := hi; omega) rfl
  · rw [cell_of_block eg]
    exact made_at w z3 3 (n * 3) i 1 101 _ rfl (by omega) (by have : i < n := hi; omega) rfl

theorem freeTo_new (n i : Nat) : freeTo (newPl n).pg i = i := by
  induction i with
  | zero => rfl
  | succ i ih => simp only [freeTo, ih]; rfl
theorem good_new (n m : Nat) (h0 : 1 ≤ n) (h1 : n ≤ 256) : Good m (newPl n) :=
  ⟨h0, h1, Int.le_refl _, by rw [freeTo_new]; exact Int.natCast_nonneg _, fun i hi => Int.le_refl _, fun i hi => Int.natCast_nonneg _, fun i hi => by simp [newPl, ByteArray.toList_eq]⟩

theorem new_call (n : Nat) (h0 : 1 ≤ n) (h1 : n ≤ 256) (w : World) :
    Calls Try.prog 7 #[.int .i64 n] w fun e w' => e = .returned (.tuple #[.pointer (some ⟨w.heap.size + 1, 0, none⟩), .int .i64 0]) ∧ (∀ B, B ≤ w.heap.size → PoolAt B w' (w.heap.size + 1) w.heap.size (newPl n)) ∧ Below w.heap.size w w' := by
  have hmk := made34 n h1
  have HP := hidden_ (fun B hB => new_pool B w n hB)
  go_enter Try.func7, Try.ntmps7
  go_wp2
  go_ret2
  exact ⟨rfl, fun B hB => HP.out B hB _ rfl, below_new (below_new (Below.refl _ _) _) _⟩

theorem new_no (z : Int) (h : z < 1 ∨ 256 < z) (w : World) : Calls Try.prog 7 #[.int .i64 z] w fun e w' => e = .returned (.tuple #[.pointer none, .int .i64 20]) ∧ w' = w := by
  by_cases h0 : z < 1
  · clear h
    go_enter Try.func7, Try.ntmps7
    go_wp2
    go_ret2
    exact ⟨rfl, rfl⟩
  · have h1 : 256 < z := by omega
    clear h
    go_enter Try.func7, Try.ntmps7
    go_wp2
    go_ret2
    exact ⟨rfl, rfl⟩

theorem refNew_call (n : Nat) (h0 : 1 ≤ n) (h1 : n ≤ 256) (w : World) :
    Calls Try.prog 8 #[.int .i64 n] w fun e w' => e = .returned (.tuple #[.pointer (some ⟨w.heap.size + 1, 0, none⟩), .int .i64 0]) ∧ (∀ B, B ≤ w.heap.size → RefAt B w' (w.heap.size + 1) w.heap.size (newPl n) (fun _ => 0)) ∧ Below w.heap.size w w' := by
  have hmk := made3 n h1
  have HP := hidden_ (fun B hB => new_ref B w n hB)
  go_enter Try.func8, Try.ntmps8
  go_wp2
  go_ret2
  exact ⟨rfl, fun B hB => HP.out B hB _ rfl, below_new (below_new (Below.refl _ _) _) _⟩

theorem refNew_no (z : Int) (h : z < 1 ∨ 256 < z) (w : World) : Calls Try.prog 8 #[.int .i64 z] w fun e w' => e = .returned (.tuple #[.pointer none, .int .i64 20]) ∧ w' = w := by
  by_cases h0 : z < 1
  · clear h
    go_enter Try.func8, Try.ntmps8
    go_wp2
    go_ret2
    exact ⟨rfl, rfl⟩
  · have h1 : 256 < z := by omega
    clear h
    go_enter Try.func8, Try.ntmps8
    go_wp2
    go_ret2
    exact ⟨rfl, rfl⟩

end Go.Proofs.Ytfggkkhehaafcaa
