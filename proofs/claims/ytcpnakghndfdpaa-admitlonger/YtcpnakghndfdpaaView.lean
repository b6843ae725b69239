/- What a slice of whole numbers reads as in a world; what cuts, new memory and draws leave of it. -/
import Derived.Test.YtcpnakghndfdpaaRows
import Derived.WalkKit
import Derived.ProofKit
import Derived.OpenShut
import Derived.Below
import Derived.Deep.QuietTactic
import Derived.BigQuiet
namespace Go.Proofs.Ytcpnakghndfdpaa

set_option maxRecDepth 20000

open Go.ChangeShapes Go.WideShapes Go.ChangeAt Go.RowKit

set_option linter.unusedVariables false

/-- the first n cells from a on are the numbers zs, of kind k -/
structure Reads (k : IntKind) (w : World) (a : Option Addr) (n : Nat) (zs : List Int) : Prop where
  len : zs.length = n
  max : n ≤ 9223372036854775807
  wf : ∀ i, (Lit.int k (zs.getD i 0)).wf = true
  some_ : 0 < n → ∃ x, a = some x
  cell : ∀ x, a = some x → ∀ i, i < n → w.cell? (x.add i) = some (.int k (zs.getD i 0))

theorem wf_nought (k : IntKind) : (Lit.int k 0).wf = true := by cases k <;> decide

theorem Reads.nil (k : IntKind) (w : World) : Reads k w none 0 [] :=
  ⟨rfl, by omega, fun i => by simpa using wf_nought k, fun h => by omega, fun _ h => by cases h⟩

theorem Reads.of_row {k : IntKind} {w : World} {x : Addr} {n : Nat} {zs : List Int} (h0 : zs.length = n) (h1 : n ≤ 9223372036854775807) (h2 : ∀ z ∈ zs, (Lit.int k z).wf = true)
    (h3 : ∀ i, i < n → w.cell? (x.add i) = some (.int k (zs.getD i 0))) : Reads k w (some x) n zs := by
  refine ⟨h0, h1, fun i => ?_, fun _ => ⟨x, rfl⟩, fun y hy => ?_⟩
  · by_cases hi : i < zs.length
    · have e : zs.getD i 0 = zs[i] := by simp [List.getD, hi]
      rw [e]
      exact h2 _ (List.getElem_mem hi)
    · have e : zs.getD i 0 = 0 := by simp [List.getD, hi]
      rw [e]
      exact wf_nought k
  · obtain rfl := Option.some.inj hy
    exact h3

/-- a world that keeps the cells keeps the reading -/
theorem Reads.carry {k : IntKind} {w w' : World} {a : Option Addr} {n : Nat} {zs : List Int} (h : Reads k w a n zs) (hc : ∀ p v, w.cell? p = some v → w'.cell? p = some v) : Reads k w' a n zs :=
  ⟨h.len, h.max, h.wf, h.some_, fun x hx i hi => hc _ _ (h.cell x hx i hi)⟩

theorem Reads.below {k : IntKind} {w w' : World} {a : Option Addr} {n : Nat} {zs : List Int} (h : Reads k w a n zs) (hb : Below w.heap.size w w') : Reads k w' a n zs :=
  h.carry fun p v hp => (hb.cell (World.block_lt_of_cell? w p hp)).trans hp

theorem Reads.drewN {k : IntKind} {w : World} {a : Option Addr} {n : Nat} {zs : List Int} (h : Reads k w a n zs) (m : Nat) : Reads k (w.drewN m) a n zs := h.carry fun _ _ hp => hp

theorem Reads.of_open {k : IntKind} {w : World} {x : Addr} {n c : Nat} {zs : List Int} (hl : n ≤ c) (hm : c ≤ maxLen) (hz : zs.length = c)
    (hc : ∀ i, i < zs.length → w.cell? (x.add i) = some (.int k (zs.getD i 0))) (hw : ∀ z ∈ zs, (Lit.int k z).wf = true) : Reads k w (some x) n (zs.take n) := by
  refine Reads.of_row (by rw [List.length_take]; omega) (by unfold maxLen at hm; omega) (fun z h => hw z (List.mem_of_mem_take h)) fun i hi => ?_
  rw [hc i (by omega)]
  have e : (zs.take n).getD i 0 = zs.getD i 0 := by simp [List.getD, hi]
  rw [e]

theorem open_length {H : Type} {k : IntKind} {n c : Nat} {zs : List Int} (hz : zs.length = c) (hl : n ≤ c) : n ≤ (lits (H := H) k (zs.take n)).length + (lits (H := H) k (zs.drop n)).length := by
  simp only [lits, List.length_map, List.length_take, List.length_drop]
  omega

/-- a slice among the arguments is not longer than what the second form's bound lets in -/
theorem bulk_pos {H : Type} (d : DataW H) : 1 ≤ Rows.uptoBulk d := by
  cases d with
  | lit l => cases l <;> simp [Rows.uptoBulk]
  | nil => simp [Rows.uptoBulk]
  | ptr d => simp [Rows.uptoBulk]
  | slice elems spare => simp [Rows.uptoBulk]
  | agg parts => simp [Rows.uptoBulk]
  | iface t d => simp [Rows.uptoBulk]
  | map entries => simp [Rows.uptoBulk]
  | held h => simp [Rows.uptoBulk]

theorem bulk_count {H : Type} (l : List (DataW H)) : l.length ≤ Rows.uptoBulkAll l := by
  induction l with
  | nil => simp [Rows.uptoBulkAll]
  | cons x r ih => have := bulk_pos x; simp only [Rows.uptoBulkAll, List.length_cons]; omega

theorem bulk_member {H : Type} (l : List (DataW H)) (j : Nat) (d : DataW H) (h : l[j]? = some d) : Rows.uptoBulk d ≤ Rows.uptoBulkAll l := by
  induction l generalizing j with
  | nil => simp at h
  | cons x r ih =>
    simp only [Rows.uptoBulkAll]
    cases j with
    | zero => simp at h; subst h; omega
    | succ j => have := ih j (by simpa using h); omega

theorem upto_slice {H : Type} {l : List (DataW H)} (hk : Rows.uptoSmall H l = true) {j : Nat} {el sp : List (DataW H)} (h : l[j]? = some (.slice el sp)) {n : Nat} (hn : n ≤ el.length + sp.length) : n ≤ 1048576 := by
  have b : Rows.uptoBulkAll l ≤ 1048576 := of_decide_eq_true hk
  have m := bulk_member l j _ h
  have c1 := bulk_count el
  have c2 := bulk_count sp
  simp only [Rows.uptoBulk] at m
  omega

theorem below_drew {B : Nat} {a w w' : World} (hb : Below B a w) (h : ∃ m, w' = w.drewN m) : Below B a w' := by
  obtain ⟨m, rfl⟩ := h
  exact ⟨hb.os, hb.tape, hb.output, hb.size, hb.block⟩

theorem below_new {w W : World} (h : Below w.heap.size w W) (o : Obj) : Below w.heap.size w (W.alloc o) := h.alloc h.size o

theorem below_then {w W W' : World} (h : Below w.heap.size w W) (k : Below W.heap.size W W') : Below w.heap.size w W' := h.trans (k.mono h.size)

theorem Reads.wf_mem {k : IntKind} {w : World} {a : Option Addr} {n : Nat} {zs : List Int} (h : Reads k w a n zs) : ∀ z ∈ zs, (Lit.int k z).wf = true := by
  intro z hz
  obtain ⟨i, hi, e⟩ := List.getElem_of_mem hz
  have := h.wf i
  rwa [show zs.getD i 0 = z by simp [List.getD, hi, e]] at this

/-- a part of a row -/
theorem Reads.cut {k : IntKind} {w : World} {x : Addr} {n : Nat} {zs : List Int} (h : Reads k w (some x) n zs) (l m : Nat) (hm : l + m ≤ n) : Reads k w (some (x.add l)) m ((zs.drop l).take m) := by
  have hl := h.len
  have e : ∀ i, i < m → ((zs.drop l).take m).getD i 0 = zs.getD (l + i) 0 := fun i hi => by simp [List.getD, hi]
  refine Reads.of_row (by rw [List.length_take, List.length_drop]; omega) (by have := h.max; omega) (fun z hz => h.wf_mem z (List.mem_of_mem_drop (List.mem_of_mem_take hz))) fun i hi => ?_
  rw [Addr.add_add, e i hi]
  exact h.cell x rfl (l + i) (by omega)

end Go.Proofs.Ytcpnakghndfdpaa
