/- Keys and values gathered one by one, and one row more put among them. -/
import Derived.Test.YthbddbipmoflfaaRows
import Derived.Test.YthbddbipmoflfaaSat
import Derived.Test.YthbddbipmoflfaaView
import Derived.Test.YthbddbipmoflfaaOwn
import Derived.Test.YthbddbipmoflfaaSteps
import Derived.Test.YthbddbipmoflfaaWhere
import Derived.Test.YthbddbipmoflfaaWorks
import Derived.Test.YthbddbipmoflfaaSoft
import Derived.Test.YthbddbipmoflfaaMean
import Derived.Test.YthbddbipmoflfaaGrids
import Derived.Test.YthbddbipmoflfaaInvIn
import Derived.Test.YthbddbipmoflfaaAtReg
import Derived.Test.YthbddbipmoflfaaAtTwo
import Derived.Test.YthbddbipmoflfaaAtChain
import Derived.Test.YthbddbipmoflfaaAtFarZ
import Derived.WalkKit
import Derived.ProofKit
import Derived.OpenShut
import Derived.Below
import Derived.WalkLawsBesides
import Derived.Deep.QuietTactic
import Derived.BigQuiet
namespace Go.Proofs.Ythbddbipmoflfaa
open Go.ChangeShapes Go.WideShapes Go.ChangeAt Go.RowKit
set_option linter.unusedVariables false
set_option linter.unusedSimpArgs false

/-- the cells of the first k rows, all of one length -/
def rowsC (A : Nat → Option Addr) (C : Nat → Nat) (n k : Nat) : List Value := (List.range k).map fun r => .slice (A r) n (C r)

theorem rowsC_succ (A : Nat → Option Addr) (C : Nat → Nat) (n k : Nat) : rowsC A C n (k + 1) = rowsC A C n k ++ [.slice (A k) n (C k)] := by simp [rowsC, List.range_succ]
theorem rowsC_length (A : Nat → Option Addr) (C : Nat → Nat) (n k : Nat) : (rowsC A C n k).length = k := by simp [rowsC]
theorem rowsC_at (A : Nat → Option Addr) (C : Nat → Nat) (n k i : Nat) (h : i < k) : (rowsC A C n k)[i]? = some (.slice (A i) n (C i)) := by simp [rowsC, h]
theorem rowsC_congr {A A' : Nat → Option Addr} {C C' : Nat → Nat} {n k : Nat} (h : ∀ r, r < k → A r = A' r ∧ C r = C' r) : rowsC A C n k = rowsC A' C' n k := by
  unfold rowsC
  refine List.map_congr_left fun r hr => ?_
  rw [(h r (List.mem_range.1 hr)).1, (h r (List.mem_range.1 hr)).2]
theorem rowsC_one (A : Nat → Option Addr) (C : Nat → Nat) (n k : Nat) : ∀ u ∈ rowsC A C n k, u.oneCell' = true := fun u hu => by
  obtain ⟨r, _, rfl⟩ := List.mem_map.1 hu
  rfl

theorem rowsC_ins (A : Nat → Option Addr) (C : Nat → Nat) (n k j : Nat) (hj : j ≤ k) (a : Option Addr) (c : Nat) : (rowsC A C n k).take j ++ [.slice a n c] ++ (rowsC A C n k).drop j = rowsC (ins A j a) (ins C j c) n (k + 1) := by
  have l1 : ((rowsC A C n k).take j).length = j := by rw [List.length_take, rowsC_length]; omega
  refine List.ext_getElem? fun i => ?_
  rw [List.append_assoc]
  rcases Nat.lt_trichotomy i j with e | e | e
  · rw [List.getElem?_append_left (by omega), List.getElem?_take_of_lt e, rowsC_at _ _ _ _ _ (by omega), rowsC_at _ _ _ _ _ (by omega), ins_lt _ _ e, ins_lt _ _ e]
  · subst e
    rw [List.getElem?_append_right (by omega), l1, Nat.sub_self, rowsC_at _ _ _ _ _ (by omega), ins_at, ins_at]
    rfl
  · obtain ⟨m, rfl⟩ : ∃ m, i = m + 1 := ⟨i - 1, by omega⟩
    rw [List.getElem?_append_right (by omega), l1, show m + 1 - j = (m - j) + 1 by omega, List.singleton_append, List.getElem?_cons_succ, List.getElem?_drop, show j + (m - j) = m by omega]
    by_cases h : m < k
    · rw [rowsC_at _ _ _ _ _ h, rowsC_at _ _ _ _ _ (by omega), ins_gt _ _ (by omega), ins_gt _ _ (by omega)]
    · rw [List.getElem?_eq_none (by rw [rowsC_length]; omega), List.getElem?_eq_none (by rw [rowsC_length]; omega)]

structure Kg (B : Nat) (w : World) (v1 v2 : Value) (n k : Nat) (A : Nat → Option Addr) (C : Nat → Nat) (R : Nat → List Int) (A1 : Nat → Option Addr) (C1 : Nat → Nat) : Prop where
  o1 : w.ownsRow B 22 1 v1 k (rowsC A C n k)
  o2 : w.ownsRow B 22 1 v2 k (rowsC A1 C1 n k)
  ap : Apart v1 v2
  rows : ∀ r, r < k → Reads .i64 w (A r) n (R r) ∧ ∀ x, A r = some x → v1.ownBlock ≠ some x.block ∧ v2.ownBlock ≠ some x.block

theorem Kg.below {B : Nat} {w w' : World} {v1 v2 : Value} {n k : Nat} {A : Nat → Option Addr} {C : Nat → Nat} {R : Nat → List Int} {A1 : Nat → Option Addr} {C1 : Nat → Nat} (h : Kg B w v1 v2 n k A C R A1 C1) (hb : Below w.heap.size w w') : Kg B w' v1 v2 n k A C R A1 C1 :=
  ⟨own_below h.o1 hb, own_below h.o2 hb, h.ap, fun r hr => ⟨(h.rows r hr).1.below hb, (h.rows r hr).2⟩⟩

theorem Kg.nil (B : Nat) (w : World) (n : Nat) (A : Nat → Option Addr) (C : Nat → Nat) (R : Nat → List Int) (A1 : Nat → Option Addr) (C1 : Nat → Nat) : Kg B w (.slice none 0 0) (.slice none 0 0) n 0 A C R A1 C1 :=
  ⟨World.ownsRow_nil _ _ _ _, World.ownsRow_nil _ _ _ _, Apart.nil _, fun r h => by omega⟩

theorem Reads.beside {k : IntKind} {w w' : World} {a : Option Addr} {n : Nat} {zs : List Int} {u1 u2 : Value} (h : Reads k w a n zs) (hq : Beside w w' u1 u2) (ha : ∀ x, a = some x → u1.ownBlock ≠ some x.block ∧ u2.ownBlock ≠ some x.block) : Reads k w' a n zs :=
  ⟨h.len, h.max, h.wf, h.some_, fun x hx i hi => by
    have hb : (x.add i).block = x.block := by simp only [Addr.add]; split <;> rfl
    exact hq.cell (h.cell x hx i hi) (by rw [hb]; exact (ha x hx).1) (by rw [hb]; exact (ha x hx).2)⟩

theorem stays_ne {w : World} {v v' : Value} {g : Nat} (hs : Stays w v v') (h : v.ownBlock ≠ some g) (hg : g < w.heap.size) : v'.ownBlock ≠ some g := fun e => by
  rcases hs with h' | h'
  · exact h (h' ▸ e)
  · have := h' g e; omega

theorem Kg.step {B : Nat} {w w9 : World} {v1 v2 v1' v2' : Value} {n k : Nat} {A : Nat → Option Addr} {C : Nat → Nat} {R : Nat → List Int} {A1 : Nat → Option Addr} {C1 : Nat → Nat} (h : Kg B w v1 v2 n k A C R A1 C1) (hn : 0 < n) {g cap : Nat} (hr : Reads .i64 w (some ⟨g, 0, none⟩) n (R k)) (hg : v1.ownBlock ≠ some g ∧ v2.ownBlock ≠ some g)
    (hq : Beside w w9 v1 v2) (s1 : Stays w v1 v1') (s2 : Stays w v2 v2') (hT : Two B w9 v1' (k + 1) (rowsC A C n k ++ [.slice (some ⟨g, 0, none⟩) n cap]) v2' (k + 1) (rowsC A1 C1 n k ++ [.slice (A1 k) n (C1 k)])) :
    Kg B w9 v1' v2' n (k + 1) (fun r => if r = k then some ⟨g, 0, none⟩ else A r) (fun r => if r = k then cap else C r) R A1 C1 := by
  refine ⟨?_, ?_, hT.ap, fun r hr' => ?_⟩
  · rw [rowsC_succ, rowsC_congr (A' := A) (C' := C) (fun r hr => by simp only [if_neg (show r ≠ k by omega), and_self])]
    simpa using hT.o1
  · rw [rowsC_succ]
    exact hT.o2
  · have lt : ∀ {a : Option Addr} {zs : List Int}, Reads .i64 w a n zs → ∀ x, a = some x → x.block < w.heap.size := fun q x hx => by
      have := World.block_lt_of_cell? w _ (q.cell x hx 0 hn)
      simpa [Addr.add] using this
    by_cases e : r = k
    · subst e
      simp only [if_true]
      refine ⟨hr.beside hq (fun x hx => ?_), fun x hx => ?_⟩
      · obtain rfl := Option.some.inj hx
        exact hg
      · have hl := lt hr x hx
        obtain rfl := Option.some.inj hx
        exact ⟨stays_ne s1 hg.1 hl, stays_ne s2 hg.2 hl⟩
    · simp only [if_neg e]
      obtain ⟨h1, h2⟩ := h.rows r (by omega)
      exact ⟨h1.beside hq h2, fun x hx => ⟨stays_ne s1 (h2 x hx).1 (lt h1 x hx), stays_ne s2 (h2 x hx).2 (lt h1 x hx)⟩⟩

theorem own_grid {B : Nat} {w : World} {v : Value} {n k : Nat} {A : Nat → Option Addr} {C : Nat → Nat} {R : Nat → List Int} (ho : w.ownsRow B 22 1 v k (rowsC A C n k)) (hk : 0 < k) (hr : ∀ r, r < k → Reads .i64 w (A r) n (R r)) :
    ∃ x c, v = .slice (some x) k c ∧ k ≤ c ∧ Grid w (some x) k A C R ∧ ∀ i u, (rowsC A C n k)[i]? = some u → w.cell? (x.add i) = some u := by
  rcases ho.2 with ⟨h1, h2⟩ | ⟨g, cap, cur, rfl, _, hg, hn, hm, hs, ht⟩
  · omega
  · refine ⟨_, _, rfl, hn, ⟨by unfold maxLen at hm; omega, fun _ => ⟨_, rfl⟩, fun x hx r hr' => ?_, fun r hr' => ?_⟩, fun i u hu => ho.cells (g := g) rfl i u hu⟩
    · obtain rfl := Option.some.inj hx
      rw [(hr r hr').len]
      exact ho.cells (g := g) rfl r _ (rowsC_at _ _ _ _ _ hr')
    · rw [(hr r hr').len]
      exact hr r hr'

theorem made_first {w : World} {B g n : Nat} {u : Int} (hown : w.ownsRow B 2 1 (.slice (some ⟨g, 0, none⟩) n n) n (madeCells (Value.int .i64 0).cells (n * 1)).toList) (hn : 0 < n) (hm : n ≤ 1000000000000000) (hu : (Lit.int .i64 u).wf = true) :
    Reads .i64 (w.setCell ⟨g, 0, none⟩ (.int .i64 u)) (some ⟨g, 0, none⟩) n (firstZ u n) ∧ w.cell? ⟨g, 0, none⟩ = some (.int .i64 0) ∧ w.frozen? ⟨g, 0, none⟩ = false := by
  have start : ∀ j, j < n → (madeCells (Value.int .i64 0).cells (n * 1)).toList[j]? = some (.int .i64 0) := fun j hj => by
    rw [show (Value.int .i64 0).cells = #[.int .i64 0] from rfl, toList_madeCells_one]
    simp [hj]
  have hlen := own_length hown
  refine ⟨own_reads_at (hown.stored 0 (.int .i64 u)).1 (first_length u n) (fun z hz => ?_) (fun j hj => ?_), (hown.cellAt 0 (by omega)).trans (start 0 hn), hown.frozenAt 0⟩
  · unfold firstZ at hz
    rcases List.mem_or_eq_of_mem_set hz with h | h
    · have := List.eq_of_mem_replicate h
      subst this
      decide
    · subst h
      exact hu
  · rw [first_at _ _ _ hj]
    by_cases e : j = 0
    · subst e
      rw [if_pos rfl, List.getElem?_set_self (by omega)]
    · rw [if_neg e, List.getElem?_set_ne (by omega)]
      exact start j hj

theorem set_first {z : List Int} {n : Nat} (hl : z.length = n) (hn : 0 < n) (u : Int) (j : Nat) (hj : j < n) : (z.set 0 u).getD j 0 = if j = 0 then u else z.getD j 0 := by
  by_cases e : j = 0
  · subst e; simp [List.getD, hl, hn]
  · rw [if_neg e]; simp [List.getD, Ne.symm e]

/-- a copy of the call's own: where it lies -/
theorem copied_own {W w1 : World} {m : Nat} {zs : List Int} {v : Value} (o : Obj) (hm : 0 < m) (hw : ∀ z ∈ zs, (Lit.int .i64 z).wf = true) (hz : zs.length = m)
    (ho : w1.ownsRow W.heap.size 2 1 v (0 + m) ([] ++ zs.map (Value.int .i64))) (hg : (W.alloc o).grownBy w1 (Value.slice (some ⟨W.heap.size, 0, none⟩) 0 0).ownBlock) :
    ∃ g cap, v = .slice (some ⟨g, 0, none⟩) m cap ∧ W.heap.size ≤ g ∧ Below W.heap.size W w1 ∧ w1.cell? ⟨g, 0, none⟩ = some (.int .i64 (zs.getD 0 0)) ∧ w1.frozen? ⟨g, 0, none⟩ = false ∧
      ∀ u, (Lit.int .i64 u).wf = true → Reads .i64 (w1.setCell ⟨g, 0, none⟩ (.int .i64 u)) (some ⟨g, 0, none⟩) m (zs.set 0 u) ∧ Below W.heap.size W (w1.setCell ⟨g, 0, none⟩ (.int .i64 u)) := by
  simp only [Nat.zero_add, List.nil_append] at ho
  have bel := copied_from (m := m) (cs := zs.map (Value.int .i64)) (v := v) (Below.refl W.heap.size W) o (by simpa using ho) hg
  rcases ho.2 with ⟨h, h0⟩ | ⟨g, cap, cur, rfl, hg1, hh, hn, hmx, hs, ht⟩
  · omega
  · refine ⟨g, cap, rfl, hg1, bel, (ho.cellAt 0 (by omega)).trans (copy_at _ _ _ (by omega)), ho.frozenAt 0, fun u hu => ⟨?_, bel.setCell hg1 _⟩⟩
    refine own_reads_at (ho.stored 0 (.int .i64 u)).1 (by rw [List.length_set]; exact hz) (fun z h => ?_) (fun j hj => ?_)
    · rcases List.mem_or_eq_of_mem_set h with h | h
      · exact hw z h
      · subst h; exact hu
    · rw [set_first hz hm u j hj]
      by_cases e : j = 0
      · subst e
        rw [if_pos rfl]
        simp [hz, hm]
      · rw [if_neg e, List.getElem?_set_ne (by omega)]
        exact copy_at _ _ _ (by omega)

theorem restN (x : Int) (n : Nat) (hn : 0 < n) : ∃ M : Nat, M < n ∧ (IntKind.u64.wrap x).tmod (n : Int) = (M : Int) ∧ IntKind.u64.wrap x % (n : Int) = (M : Int) := by
  have b : 0 ≤ IntKind.u64.wrap x := by rw [IntKind.wrap_u64]; omega
  generalize IntKind.u64.wrap x = U at *
  have h0 := Int.emod_nonneg U (show (n : Int) ≠ 0 by omega)
  have h1 := Int.emod_lt_of_pos U (show 0 < (n : Int) by omega)
  refine ⟨(U % (n : Int)).toNat, by omega, ?_, by omega⟩
  rw [Int.tmod_eq_emod_of_nonneg b]
  omega

theorem below_cell {a b : World} {p : Addr} {v : Value} (hb : Below a.heap.size a b) (h : a.cell? p = some v) : b.cell? p = some v := (hb.cell (World.block_lt_of_cell? a _ h)).trans h

theorem chain_facts {wr : World} {x : Addr} {c n k M : Nat} {A : Nat → Option Addr} {C : Nat → Nat} (cells : ∀ i u, (rowsC A C n k)[i]? = some u → wr.cell? (x.add i) = some u) (hM : M ≤ k) (hc : k ≤ c) :
    ∃ X : Addr, (∀ w, (Instr.sliceAt 23 (.slice (some x) k c) (some (.int .i64 M)) none none).run Try.prog w = .ok (.slice (some X) (k - M) (c - M)) w) ∧ ((rowsC A C n k).take M).length = M ∧ ((rowsC A C n k).drop M).length = k - M ∧
      (∀ w, Below wr.heap.size wr w → ∀ i u, ((rowsC A C n k).take M)[i]? = some u → w.cell? (x.add i) = some u) ∧ (∀ w, Below wr.heap.size wr w → ∀ i u, ((rowsC A C n k).drop M)[i]? = some u → w.cell? (X.add i) = some u) ∧
      (∀ u ∈ (rowsC A C n k).take M, u.oneCell' = true) ∧ ∀ u ∈ (rowsC A C n k).drop M, u.oneCell' = true := by
  obtain ⟨X, h1, h2⟩ := run_back23 x k c M hM hc
  refine ⟨X, h1, by rw [List.length_take, rowsC_length]; omega, by rw [List.length_drop, rowsC_length], fun w hb i u hu => ?_, fun w hb i u hu => ?_, fun u hu => rowsC_one _ _ _ _ u (List.mem_of_mem_take hu), fun u hu => rowsC_one _ _ _ _ u (List.mem_of_mem_drop hu)⟩
  · by_cases e : i < M
    · rw [List.getElem?_take_of_lt e] at hu
      exact below_cell hb (cells i u hu)
    · rw [List.getElem?_eq_none (by rw [List.length_take, rowsC_length]; omega)] at hu
      cases hu
  · rw [List.getElem?_drop] at hu
    have hl : M + i < k := by
      have := (List.getElem?_eq_some_iff.1 hu).1
      rwa [rowsC_length] at this
    rw [h2 (by omega), Addr.add_add]
    exact below_cell hb (cells _ u hu)

theorem ins_all {α β : Type} (P : α → β → Prop) {A : Nat → α} {R : Nat → β} {k M : Nat} {a : α} {z : β} (hM : M ≤ k) (h : ∀ r, r < k → P (A r) (R r)) (h0 : P a z) : ∀ r, r < k + 1 → P (ins A M a r) (ins R M z r) := by
  intro r hr
  rcases Nat.lt_trichotomy r M with e | e | e
  · rw [ins_lt _ _ e, ins_lt _ _ e]
    exact h r (by omega)
  · subst e
    rw [ins_at, ins_at]
    exact h0
  · obtain ⟨m, rfl⟩ : ∃ m, r = m + 1 := ⟨r - 1, by omega⟩
    rw [ins_gt _ _ (by omega), ins_gt _ _ (by omega)]
    exact h m (by omega)

theorem rest16 (x : Int) : -65535 ≤ x.tmod 65536 ∧ x.tmod 65536 ≤ 65535 := by
  rw [Int.tmod_eq_emod]
  split <;> omega

end Go.Proofs.Ythbddbipmoflfaa
