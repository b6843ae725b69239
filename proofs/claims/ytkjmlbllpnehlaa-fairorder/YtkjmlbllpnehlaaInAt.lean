/- A row of items of the call's own. -/
import Derived.Test.YtkjmlbllpnehlaaRows
import Derived.Test.YtkjmlbllpnehlaaView
import Derived.Test.YtkjmlbllpnehlaaOwn
import Derived.Test.YtkjmlbllpnehlaaBase
import Derived.Test.YtkjmlbllpnehlaaFkZ
import Derived.Test.YtkjmlbllpnehlaaFkBy
import Derived.Test.YtkjmlbllpnehlaaFkAt
import Derived.Test.YtkjmlbllpnehlaaFkRd
import Derived.Test.YtkjmlbllpnehlaaRfOut
import Derived.WalkKit
import Derived.ProofKit
import Derived.OpenShut
import Derived.Below
import Derived.WalkLawsBesides
import Derived.Deep.QuietTactic
import Derived.BigQuiet
import Derived.Maps.AppendAt
import Derived.OwnWalk
import Derived.Laws.OwnMore
namespace Go.Proofs.Ytkjmlbllpnehlaa
set_option maxRecDepth 20000
open Go.ChangeShapes Go.WideShapes Go.ChangeAt Go.RowKit
set_option linter.unusedVariables false
set_option linter.unusedSimpArgs false

theorem step_append_run2 {P : Program} {ops : Array Oper} {o : Oper} {a : Act} {w : World} {K : Act → World → Prop} {Q : Exit → Act → World → Prop} {E : Prop}
    (hg : o.guard = none) (s x : Operand) (t : TypeId) (hop : o.op = Op.call { callee := Callee.builtin Builtin.append, args := #[s, x], argTypes := #[t, t] })
    (ty : TypeId) (hty : o.type = ty) (V1 V2 : Value) (hs : a.eval s = V1) (hx : a.eval x = V2) (v' : Value) (w' : World) (hrun : (Builtin.append_ #[t, t] ty #[V1, V2]).run P w = .ok v' w') (hK : K (a.put o.dst v') w') :
    if Region.wanted o (yielded ops a.tmps) = true then Oper.wp P o a w K Q else E := by
  have hw : Region.wanted o (yielded ops a.tmps) = true := by simp [Region.wanted, hg]
  rw [if_pos hw]
  subst hty
  unfold Oper.wp
  simp [execOp, hop, resolve, invoke, builtin, hs, hx, hrun, Result.andThen]
  exact hK
theorem wrap_id {z : Int} (h0 : 0 ≤ z) (h1 : z ≤ 9223372036854775807) : IntKind.i64.wrap z = z := by
  have h4 : z % 18446744073709551616 = z := Int.emod_eq_of_lt h0 (by omega)
  simp [IntKind.wrap, IntKind.signed, IntKind.bits, h4]
  intro h5
  omega
theorem run_slice45c (gg L c K : Nat) (hK : K ≤ L) (hL : L ≤ c) (hc : c ≤ 9223372036854775807) : ∃ X : Addr, (∀ w, (Instr.sliceAt 45 (.slice (some ⟨gg, 0, none⟩) L c) (some (.int .i64 K)) none none).run Try.prog w = .ok (.slice (some X) (L - K) (c - K)) w) ∧ (K < L → X = ⟨gg, K * 3, none⟩) ∧ (if c = K then (some ⟨gg, 0, none⟩ : Option Addr) else some ⟨gg, K * 3, none⟩) = some X := by
  have h1 : ¬ ((K : Int) < 0) := by omega
  have h2 : ¬ ((L : Int) < (K : Int)) := by omega
  have h3 : (K : Int) ≤ (L : Int) := by omega
  by_cases e : K = c
  · subst e
    obtain rfl : L = K := by omega
    exact ⟨⟨gg, 0, none⟩, fun w => by go_simp, fun h => by omega, if_pos rfl⟩
  · have e' : ¬ c = K := fun h => e h.symm
    exact ⟨⟨gg, K * 3, none⟩, fun w => by go_simp, fun _ => rfl, if_neg e'⟩
structure InAt (B : Nat) (w : World) (a : Option Addr) (c : Nat) (L : List It) : Prop where
  own : w.ownsRow B 47 3 (.slice a L.length c) L.length (byF itF L)
theorem InAt.nil (B : Nat) (w : World) : InAt B w none 0 [] := ⟨World.ownsRow_nil _ _ _ _⟩
theorem InAt.below {B : Nat} {w : World} {a : Option Addr} {c : Nat} {L : List It} (h : InAt B w a c L) {w' : World} (hb : Below w.heap.size w w') : InAt B w' a c L := ⟨own_keep h.own fun k hk => by
  obtain ⟨_, m, r⟩ := own_blk h.own hk
  exact hb.block k r.lt⟩
theorem InAt.off {B : Nat} {w : World} {a : Option Addr} {c : Nat} {L : List It} (h : InAt B w a c L) {B' : Nat} {T : TypeId → Bool} {w' : World} (o : Off B' T w w') (hT : T 47 = false) : InAt B w' a c L := ⟨own_keep h.own fun k hk => by
  obtain ⟨_, m, r⟩ := own_blk h.own hk
  exact o.row r hT⟩
theorem InAt.mono {B : Nat} {w : World} {a : Option Addr} {c : Nat} {L : List It} (h : InAt B w a c L) {B' : Nat} (hB : B' ≤ B) : InAt B' w a c L := ⟨own_mono h.own hB⟩
theorem InAt.cells {B : Nat} {w : World} {a : Option Addr} {c : Nat} {L : List It} (h : InAt B w a c L) {j : Nat} (hj : j < L.length) : ∃ y, a = some ⟨y, 0, none⟩ ∧ w.cell? ⟨y, j * 3, none⟩ = some (.int .i64 ((L[j]).t : Int)) ∧ w.cell? ⟨y, j * 3 + 1, none⟩ = some (.int .i64 (L[j]).id) ∧ w.cell? ⟨y, j * 3 + 2, none⟩ = some (.int .i64 (L[j]).co) ∧ L.length ≤ c ∧ c ≤ 9223372036854775807 := by
  rcases h.own.2 with ⟨h1, h2⟩ | ⟨y, cap, cur, h1, h2, h3, h4, h5, _⟩
  · omega
  · have ho := h.own
    simp only [Value.slice.injEq] at h1
    obtain ⟨e1, -, e3⟩ := h1
    rw [e1, e3] at ho
    have e0 : L[j]? = some L[j] := List.getElem?_eq_getElem hj
    have l2 : j * 3 + 2 < L.length * 3 := by omega
    refine ⟨y, e1, ?_, ?_, ?_, by omega, by unfold maxLen at h5; omega⟩
    · rw [ho.cellAt (j * 3) (by omega)]
      have := by_at knd_it e0 (j := 0) (by omega)
      simpa [itF] using this
    · rw [ho.cellAt (j * 3 + 1) (by omega)]
      have := by_at knd_it e0 (j := 1) (by omega)
      simpa [itF] using this
    · rw [ho.cellAt (j * 3 + 2) l2]
      have := by_at knd_it e0 (j := 2) (by omega)
      simpa [itF] using this
theorem InAt.offT {B : Nat} {w : World} {a : Option Addr} {c : Nat} {L : List It} (h : InAt B w a c L) {w' : World} (o : OffS B (fun _ => false) (blkOf a) w w') : Off B (fun t => t == 47) w w' := ⟨o.os, o.tape, o.output, o.size, fun k hk hc => o.block k hk (by
  rcases hc with hc | hc
  · exact .inl hc
  · refine .inr ⟨fun hb => ?_, fun _ _ => rfl⟩
    obtain ⟨_, m, r⟩ := own_blk h.own hb
    have := hc 47 r.type
    cases this)⟩
/-- one more -/
theorem InAt.more {B : Nat} {w : World} {a : Option Addr} {c : Nat} {L : List It} (h : InAt B w a c L) (hB : B ≤ w.heap.size) (hf : L.length ≤ 1000) (i : Nat) (id co : Int) :
    ∃ a' c' W5, (Builtin.append_ #[45, 45] 45 #[.slice a L.length c, .slice (some ⟨w.heap.size, 0, none⟩) 1 1]).run Try.prog (w.alloc (.cells #[.int .i64 (i : Int), .int .i64 id, .int .i64 co] 47)) = .ok (.slice a' (L.length + 1) c') W5 ∧
      InAt B W5 a' c' (L ++ [(⟨i, id, co⟩ : It)]) ∧ OffS B (fun _ => false) (blkOf a) w W5 := by
  have hb := below_new (Below.refl w.heap.size w) (.cells #[.int .i64 (i : Int), .int .i64 id, .int .i64 co] 47)
  have h2 := h.below hb
  have e1 : (w.alloc (.cells #[.int .i64 (i : Int), .int .i64 id, .int .i64 co] 47)).heap[w.heap.size]? = some (.cells #[.int .i64 (i : Int), .int .i64 id, .int .i64 co] 47) := heap_alloc_new w _
  obtain ⟨a', c', W5, hr, ho, hbl, hoff, hnew⟩ := append_by knd_it (D := L) (E := [(⟨i, id, co⟩ : It)]) h2.own (Nat.le_trans hB hb.size) ⟨w.heap.size, 0, none⟩ 1 1 rfl (fun j u hj => by
    have hj2 : j < 3 := by have := (List.getElem?_eq_some_iff.1 hj).1; simpa [byF, itF] using this
    rcases (show j = 0 ∨ j = 1 ∨ j = 2 by omega) with rfl | rfl | rfl
    · have : u = .int .i64 (i : Int) := by simpa [byF, itF] using hj.symm
      rw [this, add_zero_at]
      unfold World.cell?
      rw [e1]
      rfl
    · have : u = .int .i64 id := by simpa [byF, itF] using hj.symm
      rw [this, add_zero_at]
      unfold World.cell?
      rw [e1]
      rfl
    · have : u = .int .i64 co := by simpa [byF, itF] using hj.symm
      rw [this, add_zero_at]
      unfold World.cell?
      rw [e1]
      rfl) (by omega) (by omega) 45
  have hlen : (L ++ [(⟨i, id, co⟩ : It)]).length = L.length + 1 := by simp
  refine ⟨a', c', W5, hr, ⟨by rw [hlen]; exact ho⟩, (OffS.of_below hb).trans hoff (fun _ x => .inl x)⟩
/-- without one: two appends onto a new row -/
theorem InAt.cut {B : Nat} {w : World} {a : Option Addr} {c : Nat} {L : List It} (h : InAt B w a c L) {K : Nat} (hK : K < L.length) (hl : L.length ≤ 1000) (hB : B ≤ w.heap.size) :
    ∃ gg X va vc W2 da dc W3, a = some ⟨gg, 0, none⟩ ∧ L.length ≤ c ∧ c ≤ 9223372036854775807 ∧
      (∀ W, (Instr.sliceAt 45 (.slice (some ⟨gg, 0, none⟩) L.length c) (some (.int .i64 ((K + 1 : Nat) : Int))) none none).run Try.prog W = .ok (.slice (some X) (L.length - (K + 1)) (c - (K + 1))) W) ∧
      (Builtin.append_ #[45, 45] 45 #[.slice (some ⟨w.heap.size, 0, none⟩) 0 0, .slice (some ⟨gg, 0, none⟩) K c]).run Try.prog (w.drew.alloc (.cells #[] 47)) = .ok (.slice va K vc) W2 ∧
      (Builtin.append_ #[45, 45] 45 #[.slice va K vc, .slice (some X) (L.length - (K + 1)) (c - (K + 1))]).run Try.prog W2 = .ok (.slice da (L.eraseIdx K).length dc) W3 ∧
      InAt w.heap.size W3 da dc (L.eraseIdx K) ∧ Below w.heap.size w W3 ∧ (if c = K + 1 then (some ⟨gg, 0, none⟩ : Option Addr) else some ⟨gg, (K + 1) * 3, none⟩) = some X := by
  obtain ⟨gg, ha, -, -, -, r1, hcm⟩ := h.cells hK
  have hcell : ∀ {W : World}, Below w.heap.size w W → ∀ j, j < L.length * 3 → W.cell? ⟨gg, j, none⟩ = (byF itF L)[j]? := fun {W} hb j hj => by
    have ho := (h.below hb).own
    rw [ha] at ho
    exact ho.cellAt j hj
  have b0 : Below w.heap.size w w.drew := below_drew (Below.refl _ _) ⟨1, rfl⟩
  have b1 : Below w.heap.size w (w.drew.alloc (.cells #[] 47)) := below_new b0 (.cells #[] 47)
  have own1 : (w.drew.alloc (.cells #[] 47)).ownsRow w.heap.size 47 3 (.slice (some ⟨w.heap.size, 0, none⟩) 0 0) 0 (byF itF []) := ⟨rfl, .inr ⟨w.heap.size, 0, #[], rfl, Nat.le_refl _, heap_alloc_new w.drew _, Nat.le_refl _, Nat.zero_le _, rfl, rfl⟩⟩
  obtain ⟨va, vc, W2, x8, own2, bb2, kp2, -⟩ := append_by knd_it (E := L.take K) own1 b1.size ⟨gg, 0, none⟩ K c (by rw [List.length_take]; omega) (fun j u hj => by
    rw [← by_take knd_it] at hj
    have hj5 : j < K * 3 := by have := (List.getElem?_eq_some_iff.1 hj).1; rw [List.length_take] at this; omega
    rw [add_zero_at, hcell b1 j (by omega), ← hj, List.getElem?_take, if_pos hj5]) (by omega) (by omega) 45
  have b2 : Below w.heap.size w W2 := b1.trans bb2
  obtain ⟨X, x15', hX, hXb⟩ := run_slice45c gg L.length c (K + 1) (by omega) r1 hcm
  obtain ⟨da, dc, W3, x16, own3, bb3, kp3, -⟩ := append_by knd_it (E := L.drop (K + 1)) own2 b2.size X (L.length - (K + 1)) (c - (K + 1)) (by rw [List.length_drop]) (fun j u hj => by
    rw [← by_drop knd_it] at hj
    rw [List.getElem?_drop] at hj
    have hj5 := (List.getElem?_eq_some_iff.1 hj).1
    rw [by_len knd_it] at hj5
    rw [hX (by omega), show ((⟨gg, (K + 1) * 3, none⟩ : Addr).add j) = ⟨gg, (K + 1) * 3 + j, none⟩ by simp [Addr.add], hcell b2 _ (by omega), hj]) (by omega) (by omega) 45
  have b3 : Below w.heap.size w W3 := b2.trans bb3
  have herase : L.take K ++ L.drop (K + 1) = L.eraseIdx K := by rw [List.eraseIdx_eq_take_drop_succ]
  have hlen : 0 + K + (L.length - (K + 1)) = (L.eraseIdx K).length := by rw [List.length_eraseIdx, if_pos hK]; omega
  simp only [List.nil_append, Nat.zero_add, herase] at own3 x16 x8 own2 hlen
  rw [hlen] at own3 x16
  exact ⟨gg, X, va, vc, W2, da, dc, W3, ha, r1, hcm, x15', x8, x16, ⟨own3⟩, b3, hXb⟩
theorem out_lt (L : List It) (id : Int) : decide ((outL L id).length < L.length) = hasB L id := by
  induction L with
  | nil => rfl
  | cons x r ih =>
    unfold outL hasB at ih ⊢
    have hle := List.length_filter_le (fun x : It => !(x.id == id)) r
    by_cases e : x.id = id
    · simp [List.filter_cons, e]
      omega
    · have e' : (x.id == id) = false := by simpa using e
      simp only [List.filter_cons, e', Bool.not_false, if_true, List.length_cons, List.any_cons, Bool.false_or]
      rw [← ih]
      simp
theorem out_take_succ (L : List It) (id : Int) (j : Nat) (hj : j < L.length) : outL (L.take (j + 1)) id = outL (L.take j) id ++ (if L[j].id = id then [] else [L[j]]) := by
  unfold outL
  rw [← List.take_append_getElem hj, List.filter_append]
  congr 1
  by_cases e : L[j].id = id <;> simp [e]

end Go.Proofs.Ytkjmlbllpnehlaa
