/- Something is taken out of a row (slices.Delete), and out of a tenant. -/
import Derived.Test.YtkjmlbllpnehlaaRows
import Derived.Test.YtkjmlbllpnehlaaView
import Derived.Test.YtkjmlbllpnehlaaOwn
import Derived.Test.YtkjmlbllpnehlaaBase
import Derived.Test.YtkjmlbllpnehlaaFkZ
import Derived.Test.YtkjmlbllpnehlaaFkBy
import Derived.Test.YtkjmlbllpnehlaaFkAt
import Derived.Test.YtkjmlbllpnehlaaFkRd
import Derived.Test.YtkjmlbllpnehlaaGxRt
import Derived.WalkKit
import Derived.ProofKit
import Derived.OpenShut
import Derived.Below
import Derived.WalkLawsBesides
import Derived.Deep.QuietTactic
import Derived.BigQuiet
import Derived.Maps.AppendAt
import Derived.OwnWalk
import Derived.Lib.SliceRun
import Derived.ArgAppend
import Derived.Deep.RegionLaw
import Derived.Laws.OwnMore
namespace Go.Proofs.Ytkjmlbllpnehlaa
set_option maxRecDepth 20000
open Go.ChangeShapes Go.WideShapes Go.ChangeAt Go.RowKit
set_option linter.unusedVariables false
set_option linter.unusedSimpArgs false

theorem step_append_run {P : Program} {ops : Array Oper} {o : Oper} {a : Act} {w : World} {K : Act → World → Prop} {Q : Exit → Act → World → Prop} {E : Prop}
    (hg : o.guard = none) (s x : Operand) (t : TypeId) (hop : o.op = Op.call { callee := Callee.builtin Builtin.append, args := #[s, x], argTypes := #[t, t] })
    (ty : TypeId) (hty : o.type = ty) (V1 V2 : Value) (hs : a.eval s = V1) (hx : a.eval x = V2) (v' : Value) (w' : World) (hrun : (Builtin.append_ #[t, t] ty #[V1, V2]).run P w = .ok v' w') (hK : K (a.put o.dst v') w') :
    if Region.wanted o (yielded ops a.tmps) = true then Oper.wp P o a w K Q else E := by
  have hw : Region.wanted o (yielded ops a.tmps) = true := by simp [Region.wanted, hg]
  rw [if_pos hw]
  subst hty
  unfold Oper.wp
  simp [execOp, hop, resolve, invoke, builtin, hs, hx, hrun, Result.andThen]
  exact hK

/-- one is taken out of a row: those behind it move up -/
theorem row_cut {t e q : Nat} {f : It → List Value} (K : Knd t e q f) {B : Nat} {w : World} {a : Option Addr} {d c : Nat} {ts : List It} (h : w.ownsRow B e q (.slice a (d + 1) c) (d + 1) (byF f ts)) (hl : ts.length = d + 1) (k : Nat) (hk : k ≤ d) :
    ∃ g A, a = some ⟨g, 0, none⟩ ∧ (if c = k + 1 then some (⟨g, 0, none⟩ : Addr) else some ⟨g, (k + 1) * q, none⟩) = some A ∧ d + 1 ≤ c ∧ c ≤ 9223372036854775807 ∧
      ∃ W1 W2, (Builtin.append_ #[t, t] t #[.slice (some ⟨g, 0, none⟩) k c, .slice (some A) (d - k) (c - (k + 1))]).run Try.prog w.drew = .ok (.slice (some ⟨g, 0, none⟩) d c) W1 ∧
        (∀ ty, (Builtin.clear_ #[t] ty #[.slice (some ⟨g, d * q, none⟩) 1 (c - d)]).run Try.prog W1 = .ok (.tuple #[]) W2) ∧
        W2.ownsRow B e q (.slice a d c) d (byF f (ts.eraseIdx k)) ∧ OffS B (fun _ => false) (blkOf a) w W2 := by
  obtain ⟨it, z, hi, hz0, hz1, hz2, hz3, hz4⟩ := K.info
  rcases h.2 with ⟨h1, h2⟩ | ⟨g, cap, cur, h1, h2, h3, h4, h5, h6, h7⟩
  · omega
  · simp only [Value.slice.injEq] at h1
    obtain ⟨rfl, _, rfl⟩ := h1
    have hcap : c ≤ 9223372036854775807 := by unfold maxLen at h5; omega
    obtain ⟨A, hA⟩ : ∃ A, (if c = k + 1 then some (⟨g, 0, none⟩ : Addr) else some ⟨g, (k + 1) * q, none⟩) = some A := by by_cases e : c = k + 1 <;> simp [e]
    refine ⟨g, A, rfl, hA, h4, hcap, ?_⟩
    have hq0 := K.q0
    have hbl : (byF f ts).length = (d + 1) * q := by rw [by_len K, hl]
    have hcell : ∀ j, j < (d + 1) * q → w.cell? ⟨g, j, none⟩ = (byF f ts)[j]? := fun j hj => h.cellAt j hj
    have hcs : ∀ j, j < (d + 1) * q → (w.cell? ⟨g, j, none⟩).isSome = true := fun j hj => by rw [hcell j hj, List.getElem?_eq_getElem (by omega)]; rfl
    have hfr : ∀ j, w.frozen? ⟨g, j, none⟩ = false := fun j => h.frozenAt j
    have hrow : Row e w g cur.size := ⟨cur, h3, rfl⟩
    obtain ⟨news, hnews⟩ : ∃ news, news = byF f (ts.drop (k + 1)) := ⟨_, rfl⟩
    have hnl : news.length = (d - k) * q := by rw [hnews, by_len K, List.length_drop, hl]; congr 1; omega
    have hkq : k * q + (d - k) * q = d * q := by rw [← Nat.add_mul]; congr 1; omega
    have hdq : d * q + q = (d + 1) * q := by rw [Nat.add_mul]; omega
    have hk1 : (k + 1) * q = k * q + q := by rw [Nat.add_mul]; omega
    have hsrc : ∀ j u, news[j]? = some u → w.drew.cell? (A.add j) = some u := fun j u hj => by
      have hjl : j < (d - k) * q := by have := (List.getElem?_eq_some_iff.1 hj).1; omega
      have e1 : ¬ c = k + 1 := by
        intro e1
        have : d - k = 0 := by omega
        rw [this, Nat.zero_mul] at hjl
        omega
      rw [if_neg e1] at hA
      obtain rfl := Option.some.inj hA
      have ea : (⟨g, (k + 1) * q, none⟩ : Addr).add j = ⟨g, (k + 1) * q + j, none⟩ := by simp [Addr.add]
      rw [ea]
      show w.cell? _ = _
      rw [hcell _ (by omega), ← hj, hnews, ← by_drop K, List.getElem?_drop]
    have r1 := run_append_room_cells (P := Try.prog) w.drew t t e it K.und hi g 0 k c A (d - k) (c - (k + 1)) news (by rw [hz1, hnl]) hsrc (fun u hu => by rw [hnews] at hu; exact by_one K _ u hu) (by omega)
      (fun j hj => by rw [hz1, Nat.zero_add]; exact hcs _ (by omega)) (fun j hj => by rw [hz1]; exact hfr _)
    rw [hz1, Nat.zero_add, show k + (d - k) = d by omega] at r1
    have hrow1 : Row e (w.drew.setCells g (k * q) news) g cur.size := Row.sets news (k * q) (show Row e w.drew g cur.size from hrow)
    have hsz : (d + 1) * q ≤ cur.size := by rw [h6]; exact Nat.mul_le_mul_right q h4
    have hel : (byF f (ts.eraseIdx k)).length = d * q := by rw [by_len K, List.length_eraseIdx, if_pos (by omega), hl]; rfl
    have herase : byF f (ts.eraseIdx k) = (byF f ts).take (k * q) ++ news := by
      rw [List.eraseIdx_eq_take_drop_succ, by_append, by_take K, hnews]
    have htl : ((byF f ts).take (k * q)).length = k * q := by rw [List.length_take]; omega
    have in1 : ∀ j (hj : j < d * q), (w.drew.setCells g (k * q) news).cell? ⟨g, j, none⟩ = (byF f (ts.eraseIdx k))[j]? := fun j hj => by
      rw [herase]
      by_cases hjK : j < k * q
      · have out : (w.drew.setCells g (k * q) news).cell? ⟨g, j, none⟩ = w.drew.cell? ⟨g, j, none⟩ := World.cell?_setCells_out g _ (k * q) _ ⟨g, j, none⟩ (fun _ _ => .inl hjK)
        rw [out]
        show w.cell? _ = _
        rw [hcell j (by omega), List.getElem?_append_left (by omega), List.getElem?_take, if_pos hjK]
      · have hjn : j - k * q < news.length := by rw [hnl]; omega
        have := World.cell?_setCells_in g news (k * q) w.drew (fun i hi => hcs _ (by omega)) (j - k * q) hjn
        rw [show k * q + (j - k * q) = j by omega] at this
        rw [this, List.getElem?_append_right (by omega), htl, ← List.getElem?_eq_getElem]
    obtain ⟨vs, hvl, r2⟩ : ∃ vs : List Value, vs.length = 1 * q ∧ ∀ ty, (Builtin.clear_ #[t] ty #[.slice (some ⟨g, d * q, none⟩) 1 (c - d)]).run Try.prog (w.drew.setCells g (k * q) news) = .ok (.tuple #[]) ((w.drew.setCells g (k * q) news).setCells g (d * q) vs) := by
      have r := fun ty => clear_by K (w.drew.setCells g (k * q) news) ty g (d * q) 1 (c - d) (by omega) (fun j hj => by obtain ⟨v, ev⟩ := hrow1.some_ (d * q + j) (by omega); rw [ev]; rfl) (fun j hj => hrow1.open_ _)
      obtain ⟨vs, h8, -⟩ := r 0
      obtain ⟨z', hv', hz1', hz2'⟩ := K.zv
      refine ⟨(Builtin.zeroCells z'.cells 1).toList, by rw [Array.length_toList, size_zeroCells, hz1'], fun ty => ?_⟩
      have hst := run_storeCells_cells (P := Try.prog) g (d * q) (Builtin.zeroCells z'.cells 1).toList 0 (w.drew.setCells g (k * q) news) (by
        rw [Array.length_toList, size_zeroCells, hz1']
        intro j hj
        obtain ⟨v, ev⟩ := hrow1.some_ (d * q + j) (by omega)
        rw [Nat.add_zero, ev]; rfl) (fun j hj => hrow1.open_ _) (by
        intro v hv0
        have : v ∈ Builtin.zeroCells z'.cells 1 := by simpa using hv0
        simp only [Builtin.zeroCells, Array.mem_map] at this
        obtain ⟨i, -, rfl⟩ := this
        by_cases hh : i % z'.cells.size < z'.cells.size
        · have hm := hz2' (z'.cells[i % z'.cells.size]) (by simp)
          simp [hh, hm, Value.oneCell']
        · have hp : 0 < z'.cells.size := by rw [hz1']; exact K.q0
          exact absurd (Nat.mod_lt _ hp) hh)
      simp only [Nat.add_zero] at hst
      simp [Builtin.clear_, run_underlying K.und, hv', hst]
    refine ⟨_, _, r1, r2, ?_, ?_⟩
    · have hrow2 : Row e ((w.drew.setCells g (k * q) news).setCells g (d * q) vs) g cur.size := Row.sets _ _ hrow1
      obtain ⟨cur2, e2, s2⟩ := hrow2
      refine ⟨hel, .inr ⟨g, c, cur2, rfl, h2, e2, by omega, h5, by rw [s2]; exact h6, ?_⟩⟩
      apply List.ext_getElem?
      intro j
      by_cases hj : j < d * q
      · have out : ((w.drew.setCells g (k * q) news).setCells g (d * q) vs).cell? ⟨g, j, none⟩ = (w.drew.setCells g (k * q) news).cell? ⟨g, j, none⟩ := World.cell?_setCells_out g _ (d * q) _ ⟨g, j, none⟩ (fun _ _ => .inl hj)
        rw [in1 j hj] at out
        rw [List.getElem?_take, if_pos hj, ← out]
        unfold World.cell?
        rw [e2]
        simp
      · rw [List.getElem?_take, if_neg hj, List.getElem?_eq_none (by omega)]
    · have hb : blkOf (some (⟨g, 0, none⟩ : Addr)) g := ⟨_, rfl, rfl⟩
      obtain ⟨a1, a2, a3, a4⟩ := setCells_rest g news w.drew (k * q)
      obtain ⟨b1, b2, b3, b4⟩ := setCells_rest g vs (w.drew.setCells g (k * q) news) (d * q)
      refine ⟨b1.trans a1, b2.trans a2, b3.trans a3, by rw [b4, a4]; exact Nat.le_refl _, fun i hi hc => ?_⟩
      have hne : i ≠ g := fun e => by
        subst e
        rcases hc with hc | hc
        · omega
        · exact hc.1 hb
      rw [setCells_block g _ _ _ i hne, setCells_block g _ _ _ i hne]
      rfl

set_option maxHeartbeats 1000000 in
theorem delete_call {B : Nat} {w : World} {a : Option Addr} {d c : Nat} {ts : List It} (h : w.ownsRow B 63 2 (.slice a (d + 1) c) (d + 1) (byF thF ts)) (hlt : ts.length = d + 1) (K : Nat) (hK : K ≤ d) (hl : d ≤ 1000) :
    Calls Try.prog 33 #[.slice a (d + 1) c, .int .i64 (K : Int), .int .i64 ((K : Int) + 1)] w fun e w' => e = .returned (.slice a d c) ∧ w'.ownsRow B 63 2 (.slice a d c) d (byF thF (ts.eraseIdx K)) ∧ OffS B (fun _ => false) (blkOf a) w w' := by
  obtain ⟨g, A, rfl, hA, hlc, hcm, W1, W2, hap, hcl, hrow, hoff⟩ := row_cut knd_th h hlt K hK
  have HF := hidden_ (And.intro hrow hoff)
  obtain ⟨J, eJ⟩ : ∃ J : Nat, K + 1 = J := ⟨_, rfl⟩
  have eJ' : (K : Int) + 1 = (J : Int) := by omega
  obtain ⟨m, em⟩ : ∃ m : Nat, d - K = m := ⟨_, rfl⟩
  have em' : d + 1 - J = m := by omega
  rw [eJ] at hA hap
  rw [em] at hap
  rw [eJ']
  have z1 : ((K : Int) == (J : Int)) = false := by simp; omega
  have z2 : ¬ ((K : Int) = (J : Int)) := by omega
  have hle : (J : Int) ≤ (d : Int) + 1 := by omega
  have hle' : (K : Int) ≤ (J : Int) := by omega
  have hle2 : (K : Int) ≤ (d : Int) + 1 := by omega
  have hJ : J ≤ 1001 := by omega
  have hKc : K ≤ c := by omega
  have hJc : J ≤ c := by omega
  clear h hrow hoff eJ eJ' em
  go_enter Try.func33, Try.ntmps33
  go_wp2_with fail
  go_region_law (refine step_append_run rfl (.tmp 22) (.tmp 25) 53 rfl 53 rfl _ _ (by simp [Act.eval, Act.put]) (by simp [Act.eval, Act.put]) _ _ hap ?_)
  go_wp2
  go_ret
  exact ⟨rfl, HF.out.1, HF.out.2⟩

end Go.Proofs.Ytkjmlbllpnehlaa
