/- Texts put together: View, Own, Same, Same64. -/
import Derived.Test.YtgjjeggopeppfaaRows
import Derived.WalkKit
import Derived.ProofKit
import Derived.OpenShut
import Derived.Below
import Derived.Deep.QuietTactic
import Derived.BigQuiet
import Derived.WalkLawsBesides
namespace Go.Proofs.Ytgjjeggopeppfaa

/- What a slice of whole numbers reads as in a world; what cuts, new memory and draws leave of it. -/
section
open Go.ChangeShapes Go.WideShapes Go.ChangeAt Go.RowKit
set_option linter.unusedVariables false

/-- the first n cells from a on are the numbers zs, of kind k -/
structure Reads (k : IntKind) (w : World) (a : Option Addr) (n : Nat) (zs : List Int) : Prop where
  len : zs.length = n
  max : n ≤ 9223372036854775807
  wf : ∀ i, (Lit.int k (zs.getD i 0)).wf = true
  some_ : 0 < n → ∃ x, a = some x
  cell : ∀ x, a = some x → ∀ i, i < n → w.cell? (x.add i) = some (.int k (zs.getD i 0))

theorem wf_nought (k : IntKind) : (Lit.int k 0).wf = true := by cases k <;> decide

theorem Reads.nil (k : IntKind) (w : World) : Reads k w none 0 [] :=
  ⟨rfl, by omega, fun i => by simpa using wf_nought k, fun h => by omega, fun _ h => by cases h⟩

theorem Reads.of_row {k : IntKind} {w : World} {x : Addr} {n : Nat} {zs : List Int} (h0 : zs.length = n) (h1 : n ≤ 9223372036854775807) (h2 : ∀ z ∈ zs, (Lit.int k z).wf = true)
    (h3 : ∀ i, i < n → w.cell? (x.add i) = some (.int k (zs.getD i 0))) : Reads k w (some x) n zs := by
  refine ⟨h0, h1, fun i => ?_, fun _ => ⟨x, rfl⟩, fun y hy => ?_⟩
  · by_cases hi : i < zs.length
    · have e : zs.getD i 0 = zs[i] := by simp [List.getD, hi]
      rw [e]
      exact h2 _ (List.getElem_mem hi)
    · have e : zs.getD i 0 = 0 := by simp [List.getD, hi]
      rw [e]
      exact wf_nought k
  · obtain rfl := Option.some.inj hy
    exact h3

/-- a world that keeps the cells keeps the reading -/
theorem Reads.carry {k : IntKind} {w w' : World} {a : Option Addr} {n : Nat} {zs : List Int} (h : Reads k w a n zs) (hc : ∀ p v, w.cell? p = some v → w'.cell? p = some v) : Reads k w' a n zs :=
  ⟨h.len, h.max, h.wf, h.some_, fun x hx i hi => hc _ _ (h.cell x hx i hi)⟩

theorem Reads.below {k : IntKind} {w w' : World} {a : Option Addr} {n : Nat} {zs : List Int} (h : Reads k w a n zs) (hb : Below w.heap.size w w') : Reads k w' a n zs :=
  h.carry fun p v hp => (hb.cell (World.block_lt_of_cell? w p hp)).trans hp

theorem Reads.drewN {k : IntKind} {w : World} {a : Option Addr} {n : Nat} {zs : List Int} (h : Reads k w a n zs) (m : Nat) : Reads k (w.drewN m) a n zs := h.carry fun _ _ hp => hp

theorem Reads.of_open {k : IntKind} {w : World} {x : Addr} {n c : Nat} {zs : List Int} (hl : n ≤ c) (hm : c ≤ maxLen) (hz : zs.length = c)
    (hc : ∀ i, i < zs.length → w.cell? (x.add i) = some (.int k (zs.getD i 0))) (hw : ∀ z ∈ zs, (Lit.int k z).wf = true) : Reads k w (some x) n (zs.take n) := by
  refine Reads.of_row (by rw [List.length_take]; omega) (by unfold maxLen at hm; omega) (fun z h => hw z (List.mem_of_mem_take h)) fun i hi => ?_
  rw [hc i (by omega)]
  have e : (zs.take n).getD i 0 = zs.getD i 0 := by simp [List.getD, hi]
  rw [e]

theorem open_length {H : Type} {k : IntKind} {n c : Nat} {zs : List Int} (hz : zs.length = c) (hl : n ≤ c) : n ≤ (lits (H := H) k (zs.take n)).length + (lits (H := H) k (zs.drop n)).length := by
  simp only [lits, List.length_map, List.length_take, List.length_drop]
  omega

/-- a slice among the arguments is not longer than what the second form's bound lets in -/
theorem bulk_pos {H : Type} (d : DataW H) : 1 ≤ Rows.uptoBulk d := by
  cases d with
  | lit l => cases l <;> simp [Rows.uptoBulk]
  | nil => simp [Rows.uptoBulk]
  | ptr d => simp [Rows.uptoBulk]
  | slice elems spare => simp [Rows.uptoBulk]
  | agg parts => simp [Rows.uptoBulk]
  | iface t d => simp [Rows.uptoBulk]
  | map entries => simp [Rows.uptoBulk]
  | held h => simp [Rows.uptoBulk]

theorem bulk_count {H : Type} (l : List (DataW H)) : l.length ≤ Rows.uptoBulkAll l := by
  induction l with
  | nil => simp [Rows.uptoBulkAll]
  | cons x r ih => have := bulk_pos x; simp only [Rows.uptoBulkAll, List.length_cons]; omega

theorem bulk_member {H : Type} (l : List (DataW H)) (j : Nat) (d : DataW H) (h : l[j]? = some d) : Rows.uptoBulk d ≤ Rows.uptoBulkAll l := by
  induction l generalizing j with
  | nil => simp at h
  | cons x r ih =>
    simp only [Rows.uptoBulkAll]
    cases j with
    | zero => simp at h; subst h; omega
    | succ j => have := ih j (by simpa using h); omega

theorem upto_slice {H : Type} {l : List (DataW H)} (hk : Rows.uptoSmall H l = true) {j : Nat} {el sp : List (DataW H)} (h : l[j]? = some (.slice el sp)) {n : Nat} (hn : n ≤ el.length + sp.length) : n ≤ 1048576 := by
  have b : Rows.uptoBulkAll l ≤ 1048576 := of_decide_eq_true hk
  have m := bulk_member l j _ h
  have c1 := bulk_count el
  have c2 := bulk_count sp
  simp only [Rows.uptoBulk] at m
  omega

theorem below_drew {B : Nat} {a w w' : World} (hb : Below B a w) (h : ∃ m, w' = w.drewN m) : Below B a w' := by
  obtain ⟨m, rfl⟩ := h
  exact ⟨hb.os, hb.tape, hb.output, hb.size, hb.block⟩

theorem below_new {w W : World} (h : Below w.heap.size w W) (o : Obj) : Below w.heap.size w (W.alloc o) := h.alloc h.size o
theorem below_then {w W W' : World} (h : Below w.heap.size w W) (k : Below W.heap.size W W') : Below w.heap.size w W' := h.trans (k.mono h.size)

theorem Reads.wf_mem {k : IntKind} {w : World} {a : Option Addr} {n : Nat} {zs : List Int} (h : Reads k w a n zs) : ∀ z ∈ zs, (Lit.int k z).wf = true := by
  intro z hz
  obtain ⟨i, hi, e⟩ := List.getElem_of_mem hz
  have := h.wf i
  rwa [show zs.getD i 0 = z by simp [List.getD, hi, e]] at this

/-- a part of a row -/
theorem Reads.cut {k : IntKind} {w : World} {x : Addr} {n : Nat} {zs : List Int} (h : Reads k w (some x) n zs) (l m : Nat) (hm : l + m ≤ n) : Reads k w (some (x.add l)) m ((zs.drop l).take m) := by
  have hl := h.len
  have e : ∀ i, i < m → ((zs.drop l).take m).getD i 0 = zs.getD (l + i) 0 := fun i hi => by simp [List.getD, hi]
  refine Reads.of_row (by rw [List.length_take, List.length_drop]; omega) (by have := h.max; omega) (fun z hz => h.wf_mem z (List.mem_of_mem_drop (List.mem_of_mem_take hz))) fun i hi => ?_
  rw [Addr.add_add, e i hi]
  exact h.cell x rfl (l + i) (by omega)
end

/- Rows that a call itself makes and fills: how they read behind it. -/
section
open Go.ChangeShapes Go.WideShapes Go.ChangeAt Go.RowKit
set_option linter.unusedVariables false

theorem info3 : (Try.prog.info? 3).map (fun i => (i.zero, i.size, i.bytes)) = some (some (.int .i64 0), 1, 8) := by kernel_rfl
theorem info2 : (Try.prog.info? 2).map (fun i => (i.zero, i.size, i.bytes)) = some (some (.int .i64 0), 1, 8) := by kernel_rfl

/-- a row that is owned reads as the numbers that it holds -/
theorem own_reads {k : IntKind} {w : World} {B : Nat} {e : TypeId} {v : Value} {n : Nat} {cs : List Value} (h : w.ownsRow B e 1 v n cs) {zs : List Int} (hl : zs.length = n)
    (hw : ∀ z ∈ zs, (Lit.int k z).wf = true) (hc : ∀ j, j < n → cs[j]? = some (.int k (zs.getD j 0))) : ∃ a c, v = .slice a n c ∧ Reads k w a n zs := by
  rcases h.2 with ⟨rfl, rfl⟩ | ⟨g, cap, cur, rfl, _, hg, hn, hm, hs, ht⟩
  · obtain rfl := List.eq_nil_of_length_eq_zero hl
    exact ⟨none, 0, rfl, Reads.nil _ _⟩
  · refine ⟨_, _, rfl, Reads.of_row hl (by unfold maxLen at hm; omega) hw fun i hi => ?_⟩
    exact h.cells (g := g) rfl i _ (hc i hi)

theorem own_reads_at {k : IntKind} {w : World} {B : Nat} {e : TypeId} {a : Option Addr} {n c : Nat} {cs : List Value} (h : w.ownsRow B e 1 (.slice a n c) n cs) {zs : List Int} (hl : zs.length = n)
    (hw : ∀ z ∈ zs, (Lit.int k z).wf = true) (hc : ∀ j, j < n → cs[j]? = some (.int k (zs.getD j 0))) : Reads k w a n zs := by
  obtain ⟨a', c', ev, hr⟩ := own_reads h hl hw hc
  simp only [Value.slice.injEq] at ev
  rw [ev.1]
  exact hr

/-- one more of the first k is as it shall be, where the k-th is set -/
theorem set_step {cs : List Value} {n k : Nat} {u : Value} {F : Nat → Value} (hl : cs.length = n) (hk : k < n) (hu : u = F k) (h : ∀ j, j < k → cs[j]? = some (F j)) :
    ∀ j, j < k + 1 → (cs.set k u)[j]? = some (F j) := by
  intro j hj
  by_cases e : j = k
  · subst e
    subst hu
    simp [hl, hk]
  · rw [List.getElem?_set_ne (by omega)]
    exact h j (by omega)

theorem map_getD (f : Int → Int) (xs : List Int) (j : Nat) (h : j < xs.length) : (xs.map f).getD j 0 = f (xs.getD j 0) := by
  simp [List.getD, h]

theorem own_length {w : World} {B : Nat} {e : TypeId} {v : Value} {n : Nat} {cs : List Value} (h : w.ownsRow B e 1 v n cs) : cs.length = n := by
  simpa using h.1

/-- the one new cell that an append of one number reads -/
theorem one_new (w : World) (V : Value) (t : TypeId) : ∀ j u, [V][j]? = some u → (w.alloc (.cells #[V] t)).cell? ((⟨w.heap.size, 0, none⟩ : Addr).add j) = some u := by
  intro j u hj
  match j, hj with
  | 0, hj => simp at hj; subst hj; simp [Addr.add]

theorem one_newD (w : World) (V : Value) (t : TypeId) : ∀ j u, [V][j]? = some u → (w.alloc (.cells #[V] t)).drew.cell? ((⟨w.heap.size, 0, none⟩ : Addr).add j) = some u := one_new w V t
theorem size_newD (w : World) (o : Obj) (B : Nat) (h : B ≤ w.heap.size) : B ≤ (w.alloc o).drew.heap.size := by
  show B ≤ (w.heap.push o).size
  simp
  omega
theorem grown_drew {w w' : World} {r : Option Nat} (h : w.drew.grownBy w' r) : w.grownBy w' r := ⟨h.os, h.tape, h.output, h.size, h.block⟩

theorem one_oneCell (k : IntKind) (z : Int) : ∀ u ∈ [Value.int k z], u.oneCell' = true := by
  intro u hu
  simp at hu
  subst hu
  rfl

/-- the first k of a row that is gathered -/
def gath (F : Nat → Int) (kd : IntKind) (k : Nat) : List Value := (List.range k).map fun j => .int kd (F j)

theorem gath_succ (F : Nat → Int) (kd : IntKind) (k : Nat) : gath F kd (k + 1) = gath F kd k ++ [.int kd (F k)] := by
  simp [gath, List.range_succ]

theorem gath_at (F : Nat → Int) (kd : IntKind) (n j : Nat) (h : j < n) : (gath F kd n)[j]? = some (.int kd (F j)) := by
  simp [gath, h]

/-- behind an append of one number to a row of the call's own -/
theorem append_step {w wr w1 : World} {B k : Nat} {e : TypeId} {kd : IntKind} {F : Nat → Int} {v v' : Value} {Z : Int} {o : Obj} (hB : B ≤ wr.heap.size) (hz : Z = F k) (hb : Below B w wr)
    (hown : wr.ownsRow B e 1 v k (gath F kd k)) (hown' : w1.ownsRow B e 1 v' (k + 1) (gath F kd k ++ [.int kd Z])) (hg : (wr.alloc o).grownBy w1 v.ownBlock) :
    Below B w w1 ∧ w1.ownsRow B e 1 v' (k + 1) (gath F kd (k + 1)) := by
  subst hz
  rw [gath_succ]
  exact ⟨(hb.alloc hB o).grown hg (by have := (Below.refl B wr).alloc hB o; have := this.size; omega) (fun g h => (hown.lt g h).1), hown'⟩
end

/- Whether two rows are the same: the contract of the call. -/
section
open Go.ChangeShapes Go.WideShapes Go.ChangeAt Go.RowKit
set_option linter.unusedVariables false

theorem same_ints (a0 : Option Addr) (n0 c0 : Nat) (zs : List Int) (a1 : Option Addr) (n1 c1 : Nat) (w : World)
    (h0 : Reads .i64 w a0 n0 zs) (h1 : Reads .i64 w a1 n1 zs) :
    Calls Try.prog 47 #[.slice a0 n0 c0, .slice a1 n1 c1] w fun e w' => e = .returned (.bool true) ∧ ∃ m, w' = w.drewN m := by
  obtain rfl : n0 = n1 := h0.len.symm.trans h1.len
  have hm := h0.max
  go_enter Try.func47, Try.ntmps47
  go_wp2
  go_loopw [5] (fun i wr => ∃ k : Nat, k ≤ n0 ∧ i = .int .i64 k ∧ ∃ m, wr = w.drewN m) (fun i _ => n0 - (intOf i).toNat)
  case atStart => exact ⟨0, Nat.zero_le _, rfl, 0, rfl⟩
  case round =>
    obtain ⟨k, hk, rfl, m, hw⟩ := hrel
    by_cases hlt : k < n0
    · obtain ⟨x, rfl⟩ := h0.some_ (by omega)
      obtain ⟨y, rfl⟩ := h1.some_ (by omega)
      have cx : wr.cell? (x.add k) = some (.int .i64 (zs.getD k 0)) := by rw [hw]; exact h0.cell x rfl k hlt
      have cy : wr.cell? (y.add k) = some (.int .i64 (zs.getD k 0)) := by rw [hw]; exact h1.cell y rfl k hlt
      have Hw : Hid (wr = w.drewN m) := hw
      clear hw
      obtain ⟨Z, eZ⟩ : ∃ Z, zs.getD k 0 = Z := ⟨_, rfl⟩
      rw [eZ] at cx cy
      clear eZ
      go_wp2
      go_quiet (fail)
      go_wp2
      go_roundw
      case rel => exact ⟨k + 1, by omega, by go_num, _, by rw [Hw.out, World.drewN_drewN]⟩
      case measure => simp [intOf]; omega
    · have e : k = n0 := by omega
      subst e
      subst hw
      go_wp2
      go_ret
      exact ⟨rfl, _, rfl⟩
end

/- Whether two rows of numbers of 64 bits are the same: the contract of the call. -/
section
open Go.ChangeShapes Go.WideShapes Go.ChangeAt Go.RowKit
set_option linter.unusedVariables false

theorem same_rows (a0 : Option Addr) (n0 c0 : Nat) (zs : List Int) (a1 : Option Addr) (n1 c1 : Nat) (w : World)
    (h0 : Reads .i64 w a0 n0 zs) (h1 : Reads .i64 w a1 n1 zs) :
    Calls Try.prog 26 #[.slice a0 n0 c0, .slice a1 n1 c1] w fun e w' => e = .returned (.bool true) ∧ ∃ m, w' = w.drewN m := by
  obtain rfl : n0 = n1 := h0.len.symm.trans h1.len
  have hm := h0.max
  go_enter Try.func26, Try.ntmps26
  go_wp2
  go_loopw [5] (fun i wr => ∃ k : Nat, k ≤ n0 ∧ i = .int .i64 k ∧ ∃ m, wr = w.drewN m) (fun i _ => n0 - (intOf i).toNat)
  case atStart => exact ⟨0, Nat.zero_le _, rfl, 0, rfl⟩
  case round =>
    obtain ⟨k, hk, rfl, m, hw⟩ := hrel
    by_cases hlt : k < n0
    · obtain ⟨x, rfl⟩ := h0.some_ (by omega)
      obtain ⟨y, rfl⟩ := h1.some_ (by omega)
      have cx : wr.cell? (x.add k) = some (.int .i64 (zs.getD k 0)) := by rw [hw]; exact h0.cell x rfl k hlt
      have cy : wr.cell? (y.add k) = some (.int .i64 (zs.getD k 0)) := by rw [hw]; exact h1.cell y rfl k hlt
      have Hw : Hid (wr = w.drewN m) := hw
      clear hw
      obtain ⟨Z, eZ⟩ : ∃ Z, zs.getD k 0 = Z := ⟨_, rfl⟩
      rw [eZ] at cx cy
      clear eZ
      go_wp2
      go_quiet (fail)
      go_wp2
      go_roundw
      case rel => exact ⟨k + 1, by omega, by go_num, _, by rw [Hw.out, World.drewN_drewN]⟩
      case measure => simp [intOf]; omega
    · have e : k = n0 := by omega
      subst e
      subst hw
      go_wp2
      go_ret
      exact ⟨rfl, _, rfl⟩
end

end Go.Proofs.Ytgjjeggopeppfaa
