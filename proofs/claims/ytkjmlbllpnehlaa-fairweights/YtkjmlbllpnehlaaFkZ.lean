/- Whose turn it is, as plain values. -/
import Derived.Test.YtkjmlbllpnehlaaRows
import Derived.Test.YtkjmlbllpnehlaaView
import Derived.Test.YtkjmlbllpnehlaaOwn
import Derived.Test.YtkjmlbllpnehlaaBase
import Derived.WalkKit
import Derived.ProofKit
import Derived.OpenShut
import Derived.Below
import Derived.WalkLawsBesides
import Derived.Deep.QuietTactic
import Derived.BigQuiet
namespace Go.Proofs.Ytkjmlbllpnehlaa
set_option maxRecDepth 20000
open Go.ChangeShapes Go.WideShapes Go.ChangeAt Go.RowKit
set_option linter.unusedVariables false
set_option linter.unusedSimpArgs false

/-- something that waits -/
structure It where
  t : Nat
  id : Int
  co : Int
/-- tenants with weights and clocks, what waits in the order in which it came, the time -/
structure Fr where
  n : Nat
  wt : Nat → Int
  ck : Nat → Int
  L : List It
  tm : Int
def rowOf (L : List It) (t : Nat) : List It := L.filter fun x => x.t == t
def numB (s : Fr) (z : Int) : Bool := decide (0 ≤ z ∧ z < (s.n : Int))
def waitZ (s : Fr) (z : Int) : Nat := if numB s z = true then (rowOf s.L z.toNat).length else 0
def clockZ (s : Fr) (z : Int) : Int := if numB s z = true then s.ck z.toNat else 0
def hasB (L : List It) (id : Int) : Bool := L.any fun x => x.id == id
def outL (L : List It) (id : Int) : List It := L.filter fun x => !(x.id == id)
def addE (s : Fr) (z id co : Int) : Int := if numB s z = false ∨ co < 1 ∨ 10000 < co then 20 else if hasB s.L id = true then 26 else if 16 ≤ (rowOf s.L z.toNat).length then 5 else 0
def raised (s : Fr) (t : Nat) : Nat → Int := if rowOf s.L t = [] then upd s.ck t (max (s.ck t) s.tm) else s.ck
def addS (s : Fr) (z id co : Int) : Fr := if addE s z id co = 0 then { s with ck := raised s z.toNat, L := s.L ++ [⟨z.toNat, id, co⟩] } else s
/-- the one of the first k tenants of whom something waits that has the least clock, the first of the same ones -/
def bestTo (s : Fr) : Nat → Option Nat
  | 0 => none
  | k + 1 => if rowOf s.L k ≠ [] ∧ (∀ b, bestTo s k = some b → s.ck k < s.ck b) then some k else bestTo s k
def tick (co w : Int) : Int := co * (720720 / w)
def nextO (s : Fr) : Option It := (bestTo s s.n).bind fun b => (rowOf s.L b).head?
def nextS (s : Fr) : Fr := match nextO s with
  | none => s
  | some x => { s with tm := s.ck x.t, ck := upd s.ck x.t (s.ck x.t + tick x.co (s.wt x.t)), L := outL s.L x.id }
def canS (s : Fr) (id : Int) : Fr := { s with L := outL s.L id }

/-- as it should be, after at most K steps -/
structure FrOk (K : Nat) (s : Fr) : Prop where
  n1 : 1 ≤ s.n
  n4 : s.n ≤ 4
  wt : ∀ i, i < s.n → 1 ≤ s.wt i ∧ s.wt i ≤ 16
  ck : ∀ i, i < s.n → 0 ≤ s.ck i ∧ s.ck i ≤ (K : Int) * 7207200000
  tm0 : 0 ≤ s.tm
  tm1 : s.tm ≤ (K : Int) * 7207200000
  it : ∀ x ∈ s.L, x.t < s.n ∧ 1 ≤ x.co ∧ x.co ≤ 10000 ∧ (Lit.int .i64 x.id).wf = true
  nd : (s.L.map It.id).Nodup
  few : ∀ t, (rowOf s.L t).length ≤ 16

theorem mem_row {L : List It} {t : Nat} {x : It} : x ∈ rowOf L t ↔ x ∈ L ∧ x.t = t := by simp [rowOf]
theorem row_append (L M : List It) (t : Nat) : rowOf (L ++ M) t = rowOf L t ++ rowOf M t := by simp [rowOf]
theorem row_one (x : It) (t : Nat) : rowOf [x] t = if x.t = t then [x] else [] := by simp [rowOf, List.filter_cons]
theorem row_out (L : List It) (id : Int) (t : Nat) : rowOf (outL L id) t = outL (rowOf L t) id := by simp [rowOf, outL, List.filter_filter, Bool.and_comm]
theorem out_none {L : List It} {id : Int} (h : hasB L id = false) : outL L id = L := by
  unfold outL
  rw [List.filter_eq_self]
  intro x hx
  unfold hasB at h
  rw [List.any_eq_false] at h
  have := h x hx
  simpa using this
theorem has_mem {L : List It} {id : Int} : hasB L id = true ↔ ∃ x ∈ L, x.id = id := by simp [hasB]
theorem nodup_out {L : List It} (h : (L.map It.id).Nodup) (id : Int) : ((outL L id).map It.id).Nodup := h.sublist ((List.filter_sublist (l := L)).map _)
theorem nodup_row {L : List It} (h : (L.map It.id).Nodup) (t : Nat) : ((rowOf L t).map It.id).Nodup := h.sublist ((List.filter_sublist (l := L)).map _)
/-- in a list of different ids the one at a place is all that has its id -/
theorem out_at {L : List It} (h : (L.map It.id).Nodup) {k : Nat} (hk : k < L.length) : outL L L[k].id = L.eraseIdx k := by
  induction L generalizing k with
  | nil => simp at hk
  | cons x r ih =>
    rw [List.map_cons, List.nodup_cons] at h
    cases k with
    | zero =>
      have hn : hasB r x.id = false := by
        cases e : hasB r x.id with
        | false => rfl
        | true =>
          obtain ⟨y, hy, he⟩ := has_mem.1 e
          exact absurd (List.mem_map.2 ⟨y, hy, he⟩) h.1
      have := out_none hn
      unfold outL at this ⊢
      simpa [List.filter_cons] using this
    | succ k =>
      have hk' : k < r.length := by simpa using hk
      have hx : ¬ x.id = r[k].id := fun e => h.1 (List.mem_map.2 ⟨r[k], List.getElem_mem hk', e.symm⟩)
      have := ih h.2 hk'
      unfold outL at this ⊢
      simp [List.filter_cons, hx, this]
theorem inj_id {L : List It} (h : (L.map It.id).Nodup) {x y : It} (hx : x ∈ L) (hy : y ∈ L) (e : x.id = y.id) : x = y := by
  induction L with
  | nil => cases hx
  | cons z r ih =>
    rw [List.map_cons, List.nodup_cons] at h
    rcases List.mem_cons.1 hx with h1 | h1 <;> rcases List.mem_cons.1 hy with h2 | h2
    · rw [h1, h2]
    · exact absurd (List.mem_map.2 ⟨y, h2, by rw [← e, h1]⟩) h.1
    · exact absurd (List.mem_map.2 ⟨x, h1, by rw [e, h2]⟩) h.1
    · exact ih h.2 h1 h2
theorem out_mem {L : List It} {id : Int} {x : It} : x ∈ outL L id ↔ x ∈ L ∧ x.id ≠ id := by simp [outL]

theorem best_lt {s : Fr} {k b : Nat} (h : bestTo s k = some b) : b < k ∧ rowOf s.L b ≠ [] := by
  induction k with
  | zero => cases h
  | succ k ih =>
    simp only [bestTo] at h
    split at h
    · rename_i hc
      obtain rfl := Option.some.inj h
      exact ⟨Nat.lt_succ_self _, hc.1⟩
    · exact ⟨Nat.lt_succ_of_lt (ih h).1, (ih h).2⟩
theorem best_none {s : Fr} {k : Nat} (h : bestTo s k = none) : ∀ i, i < k → rowOf s.L i = [] := by
  induction k with
  | zero => intro i hi; omega
  | succ k ih =>
    simp only [bestTo] at h
    split at h
    · cases h
    · rename_i hc
      intro i hi
      by_cases e : i = k
      · subst e
        refine Classical.byContradiction fun hn => hc ⟨hn, fun b hb => ?_⟩
        rw [h] at hb
        cases hb
      · exact ih h i (by omega)
theorem best_least {s : Fr} {k b : Nat} (h : bestTo s k = some b) : ∀ i, i < k → rowOf s.L i ≠ [] → s.ck b ≤ s.ck i := by
  induction k generalizing b with
  | zero => intro i hi; omega
  | succ k ih =>
    simp only [bestTo] at h
    split at h
    · rename_i hc
      obtain rfl := Option.some.inj h
      intro i hi hr
      by_cases e : i = k
      · subst e
        exact Int.le_refl _
      · cases hb : bestTo s k with
        | none => exact absurd (best_none hb i (by omega)) hr
        | some c => exact Int.le_of_lt (Int.lt_of_lt_of_le (hc.2 c hb) (ih hb i (by omega) hr))
    · rename_i hc
      intro i hi hr
      by_cases e : i = k
      · subst e
        refine Classical.byContradiction fun hn => hc ⟨hr, fun b' hb => ?_⟩
        rw [h] at hb
        obtain rfl := Option.some.inj hb
        omega
      · exact ih h i (by omega) hr

theorem best_row {s : Fr} {b : Nat} (h : bestTo s s.n = some b) : ∃ x, (rowOf s.L b).head? = some x ∧ x.t = b ∧ x ∈ s.L := by
  have h1 := (best_lt h).2
  cases e : rowOf s.L b with
  | nil => exact absurd e h1
  | cons x r =>
    have : x ∈ rowOf s.L b := by rw [e]; simp
    exact ⟨x, rfl, (mem_row.1 this).2, (mem_row.1 this).1⟩
theorem nextO_mem {s : Fr} {x : It} (h : nextO s = some x) : x ∈ s.L ∧ bestTo s s.n = some x.t ∧ (rowOf s.L x.t).head? = some x := by
  unfold nextO at h
  cases hb : bestTo s s.n with
  | none => rw [hb] at h; cases h
  | some b =>
    rw [hb] at h
    obtain ⟨y, h1, h2, h3⟩ := best_row hb
    simp only [Option.bind_some] at h
    rw [h1] at h
    obtain rfl := Option.some.inj h
    rw [h2]
    exact ⟨h3, rfl, h1⟩
theorem nextO_none {s : Fr} : nextO s = none ↔ bestTo s s.n = none := by
  unfold nextO
  cases hb : bestTo s s.n with
  | none => simp
  | some b =>
    obtain ⟨y, h1, h2, h3⟩ := best_row hb
    simp [h1]
theorem next_empty {K : Nat} {s : Fr} (hk : FrOk K s) : nextO s = none ↔ s.L = [] := by
  rw [nextO_none]
  constructor
  · intro h
    refine List.eq_nil_iff_forall_not_mem.2 fun x hx => ?_
    have := best_none h x.t (hk.it x hx).1
    have h2 : x ∈ rowOf s.L x.t := mem_row.2 ⟨hx, rfl⟩
    rw [this] at h2
    cases h2
  · intro h
    cases hb : bestTo s s.n with
    | none => rfl
    | some b =>
      exact absurd (show rowOf s.L b = [] by rw [h]; rfl) (best_lt hb).2

theorem tick_ok {co w : Int} (h1 : 1 ≤ co) (h2 : co ≤ 10000) (w1 : 1 ≤ w) (w2 : w ≤ 16) : 0 ≤ tick co w ∧ tick co w ≤ 7207200000 ∧ (co * 720720).tdiv w = tick co w ∧ 0 ≤ 720720 / w ∧ 720720 / w ≤ 720720 ∧ (720720 : Int).tdiv w = 720720 / w ∧ w * (720720 / w) = 720720 := by
  have hw : w = 1 ∨ w = 2 ∨ w = 3 ∨ w = 4 ∨ w = 5 ∨ w = 6 ∨ w = 7 ∨ w = 8 ∨ w = 9 ∨ w = 10 ∨ w = 11 ∨ w = 12 ∨ w = 13 ∨ w = 14 ∨ w = 15 ∨ w = 16 := by omega
  unfold tick
  have e : (co * 720720).tdiv w = co * 720720 / w := Int.tdiv_eq_ediv_of_nonneg (by omega)
  have e2 : (720720 : Int).tdiv w = 720720 / w := Int.tdiv_eq_ediv_of_nonneg (by omega)
  rw [e, e2]
  rcases hw with rfl | rfl | rfl | rfl | rfl | rfl | rfl | rfl | rfl | rfl | rfl | rfl | rfl | rfl | rfl | rfl <;> refine ⟨by omega, by omega, by omega, by omega, by omega, rfl, by omega⟩

theorem FrOk.mono {K K' : Nat} {s : Fr} (h : FrOk K s) (hk : K ≤ K') : FrOk K' s := by
  have e : (K : Int) * 7207200000 ≤ (K' : Int) * 7207200000 := by omega
  exact ⟨h.n1, h.n4, h.wt, fun i hi => ⟨(h.ck i hi).1, Int.le_trans (h.ck i hi).2 e⟩, h.tm0, Int.le_trans h.tm1 e, h.it, h.nd, h.few⟩
theorem FrOk.canS {K : Nat} {s : Fr} (h : FrOk K s) (id : Int) : FrOk K (canS s id) :=
  ⟨h.n1, h.n4, h.wt, h.ck, h.tm0, h.tm1, fun x hx => h.it x (out_mem.1 hx).1, nodup_out h.nd id, fun t => by
    show (rowOf (outL s.L id) t).length ≤ 16
    rw [row_out]
    exact Nat.le_trans (List.length_filter_le _ _) (h.few t)⟩
theorem raised_at (s : Fr) (t i : Nat) : raised s t i = if rowOf s.L t = [] ∧ i = t then max (s.ck t) s.tm else s.ck i := by
  unfold raised
  by_cases e : rowOf s.L t = []
  · rw [if_pos e]
    by_cases e2 : i = t
    · subst e2
      rw [upd_same, if_pos ⟨e, rfl⟩]
    · rw [upd_other _ _ _ _ e2, if_neg (fun x => e2 x.2)]
  · rw [if_neg e, if_neg (fun x => e x.1)]
theorem addE_ok {s : Fr} {z id co : Int} (h : addE s z id co = 0) : numB s z = true ∧ 1 ≤ co ∧ co ≤ 10000 ∧ hasB s.L id = false ∧ (rowOf s.L z.toNat).length < 16 := by
  unfold addE at h
  split at h
  · cases h
  · rename_i h1
    split at h
    · cases h
    · rename_i h2
      split at h
      · cases h
      · rename_i h3
        refine ⟨?_, by omega, by omega, by simpa using h2, by omega⟩
        cases hb : numB s z with
        | true => rfl
        | false => exact absurd (.inl hb) h1
theorem num_nat {s : Fr} {z : Int} (h : numB s z = true) : 0 ≤ z ∧ z < (s.n : Int) ∧ z.toNat < s.n ∧ ((z.toNat : Nat) : Int) = z := by
  unfold numB at h
  have := of_decide_eq_true h
  exact ⟨this.1, this.2, by omega, by omega⟩
theorem FrOk.addS {K : Nat} {s : Fr} (h : FrOk K s) {z id co : Int} (hw : (Lit.int .i64 id).wf = true) : FrOk K (addS s z id co) := by
  unfold Go.Proofs.Ytkjmlbllpnehlaa.addS
  by_cases e : addE s z id co = 0
  · rw [if_pos e]
    obtain ⟨e1, e2, e3, e4, e5⟩ := addE_ok e
    obtain ⟨z0, z1, z2, z3⟩ := num_nat e1
    refine ⟨h.n1, h.n4, h.wt, fun i hi => ?_, h.tm0, h.tm1, fun x hx => ?_, ?_, fun t => ?_⟩
    · show 0 ≤ raised s z.toNat i ∧ raised s z.toNat i ≤ _
      rw [raised_at]
      have h1 := h.ck i hi
      have h0 := h.ck _ z2
      have h2 := h.tm0
      have h3 := h.tm1
      split
      · omega
      · exact h1
    · rcases List.mem_append.1 hx with hx | hx
      · exact h.it x hx
      · obtain rfl := List.mem_singleton.1 hx
        exact ⟨z2, e2, e3, hw⟩
    · show ((s.L ++ [(⟨z.toNat, id, co⟩ : It)]).map It.id).Nodup
      rw [List.map_append, List.map_singleton, List.nodup_append]
      refine ⟨h.nd, by simp, fun a ha b hb => ?_⟩
      obtain ⟨x, hx, rfl⟩ := List.mem_map.1 ha
      intro hh
      have hb' : b = id := by simpa using hb
      rw [hb'] at hh
      have : hasB s.L id = true := has_mem.2 ⟨x, hx, hh⟩
      rw [e4] at this
      cases this
    · show (rowOf (s.L ++ [(⟨z.toNat, id, co⟩ : It)]) t).length ≤ 16
      rw [row_append, row_one, List.length_append]
      have := h.few t
      dsimp only
      split
      · rename_i e6
        rw [← e6]
        simp only [List.length_singleton]
        omega
      · simpa using this
  · rw [if_neg e]
    exact h
theorem FrOk.nextS {K : Nat} {s : Fr} (h : FrOk K s) : FrOk (K + 1) (nextS s) := by
  unfold Go.Proofs.Ytkjmlbllpnehlaa.nextS
  cases e : nextO s with
  | none => exact h.mono (Nat.le_succ _)
  | some x =>
    obtain ⟨h1, h2, h3⟩ := nextO_mem e
    have hx := h.it x h1
    have hc := h.ck x.t hx.1
    obtain ⟨t0, t1, -⟩ := tick_ok hx.2.1 hx.2.2.1 (h.wt x.t hx.1).1 (h.wt x.t hx.1).2
    have hK : ((K + 1 : Nat) : Int) * 7207200000 = (K : Int) * 7207200000 + 7207200000 := by omega
    refine ⟨h.n1, h.n4, h.wt, fun i hi => ?_, hc.1, ?_, fun y hy => h.it y (out_mem.1 hy).1, nodup_out h.nd _, fun t => ?_⟩
    · show 0 ≤ upd s.ck x.t _ i ∧ upd s.ck x.t _ i ≤ _
      rw [hK]
      unfold upd
      have := h.ck i hi
      split <;> omega
    · rw [hK]
      show s.ck x.t ≤ _
      omega
    · show (rowOf (outL s.L x.id) t).length ≤ 16
      rw [row_out]
      exact Nat.le_trans (List.length_filter_le _ _) (h.few t)
/-- what waits of each behind the next one's turn -/
theorem next_rows {K : Nat} {s : Fr} (h : FrOk K s) {x : It} (e : nextO s = some x) (t : Nat) : rowOf (nextS s).L t = if t = x.t then (rowOf s.L t).tail else rowOf s.L t := by
  obtain ⟨h1, h2, h3⟩ := nextO_mem e
  have e1 : (nextS s).L = outL s.L x.id := by unfold nextS; rw [e]
  rw [e1, row_out]
  by_cases ht : t = x.t
  · subst ht
    rw [if_pos rfl]
    cases hr : rowOf s.L x.t with
    | nil => rw [hr] at h3; cases h3
    | cons y r =>
      rw [hr] at h3
      obtain rfl : y = x := by simpa using h3
      have nd := nodup_row h.nd y.t
      rw [hr] at nd
      have := out_at nd (k := 0) (by simp)
      simpa using this
  · rw [if_neg ht]
    refine out_none ?_
    cases hh : hasB (rowOf s.L t) x.id with
    | false => rfl
    | true =>
      obtain ⟨y, hy, he⟩ := has_mem.1 hh
      have := inj_id h.nd (mem_row.1 hy).1 h1 he
      subst this
      exact absurd (mem_row.1 hy).2.symm ht

end Go.Proofs.Ytkjmlbllpnehlaa
