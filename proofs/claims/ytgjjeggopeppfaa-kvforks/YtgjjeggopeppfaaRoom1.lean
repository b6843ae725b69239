/- One page more in a sequence's row; the page that is taken. -/
import Derived.Test.YtgjjeggopeppfaaRows
import Derived.Test.YtgjjeggopeppfaaPages
import Derived.Test.YtgjjeggopeppfaaView
import Derived.Test.YtgjjeggopeppfaaOwn
import Derived.Test.YtgjjeggopeppfaaLeast
import Derived.Test.YtgjjeggopeppfaaLays
import Derived.Test.YtgjjeggopeppfaaTurns
import Derived.Test.YtgjjeggopeppfaaGoods
import Derived.Test.YtgjjeggopeppfaaSeqs
import Derived.Test.YtgjjeggopeppfaaSeqAt
import Derived.Test.YtgjjeggopeppfaaSeqRd
import Derived.Test.YtgjjeggopeppfaaSeqNeed
import Derived.Test.YtgjjeggopeppfaaReadsP
import Derived.Test.YtgjjeggopeppfaaReadsQ
import Derived.Test.YtgjjeggopeppfaaLies
import Derived.WalkKit
import Derived.ProofKit
import Derived.OpenShut
import Derived.Below
import Derived.WalkLawsBesides
import Derived.Deep.QuietTactic
import Derived.BigQuiet
import Derived.Laws.OwnMore
import Derived.Deep.RegionLaw
import Derived.Maps.AppendAt
namespace Go.Proofs.Ytgjjeggopeppfaa
open Go.ChangeShapes Go.WideShapes Go.ChangeAt Go.RowKit
set_option linter.unusedVariables false
set_option linter.unusedSimpArgs false

/-- an append whose run is known, as a step of a region that draws its order -/
theorem step_append_run {P : Program} {ops : Array Oper} {o : Oper} {a : Act} {w : World} {K : Act → World → Prop} {Q : Exit → Act → World → Prop} {E : Prop}
    (hg : o.guard = none) (s x : Operand) (t : TypeId) (hop : o.op = Op.call { callee := Callee.builtin Builtin.append, args := #[s, x], argTypes := #[t, t] })
    (ty : TypeId) (hty : o.type = ty) (V1 V2 : Value) (hs : a.eval s = V1) (hx : a.eval x = V2) (v' : Value) (w' : World) (hrun : (Builtin.append_ #[t, t] ty #[V1, V2]).run P w = .ok v' w') (hK : K (a.put o.dst v') w') :
    if Region.wanted o (yielded ops a.tmps) = true then Oper.wp P o a w K Q else E := by
  have hw : Region.wanted o (yielded ops a.tmps) = true := by simp [Region.wanted, hg]
  rw [if_pos hw]
  subst hty
  unfold Oper.wp
  simp [execOp, hop, resolve, invoke, builtin, hs, hx, hrun, Result.andThen]
  exact hK

theorem ownBlock_blk {a : Option Addr} {l c k : Nat} {B : Nat} {w : World} {zs : List Int} (h : RowI B w a l c zs) (hk : blkOf a k) : (Value.slice a l c).ownBlock = some k := by
  obtain ⟨y, rfl, rfl⟩ := hk
  rfl
theorem blk_ownBlock {a : Option Addr} {l c k : Nat} (h : (Value.slice a l c).ownBlock = some k) : blkOf a k := by
  cases a with
  | none => cases h
  | some y => exact ⟨y, rfl, by simpa [Value.ownBlock] using h⟩

/-- one number more in a row of its own -/
theorem run_append1 {B : Nat} {w : World} {a : Option Addr} {l c : Nat} {zs : List Int} (h : RowI B w a l c zs) (hB : B ≤ w.heap.size) (hl : l ≤ 1000) (z : Int) (hz : (Lit.int .i64 z).wf = true) :
    ∃ a' c' W2, (Builtin.append_ #[49, 49] 49 #[.slice a l c, .slice (some ⟨w.heap.size, 0, none⟩) 1 1]).run Try.prog (w.alloc (.cells #[.int .i64 z] 3)).drew = .ok (.slice a' (l + 1) c') W2 ∧
      RowI B W2 a' (l + 1) c' (zs ++ [z]) ∧ (∀ k, blkOf a' k → blkOf a k ∨ w.heap.size ≤ k) ∧ OffS B (fun _ => false) (blkOf a) w W2 := by
  obtain ⟨i0, hi, hz0, hz1, hz2⟩ := info_parts info3
  have hown : (w.alloc (.cells #[.int .i64 z] 3)).drew.ownsRow B 3 1 (.slice a l c) l (zs.map (Value.int .i64)) := h.own.alloc _
  obtain ⟨v', w', hr, ho, hg, _, hb⟩ := run_append_own_at (P := Try.prog) (w := (w.alloc (.cells #[.int .i64 z] 3)).drew) B 49 49 3 i0 _ 1 8 Try.underlying49 hi hz0 hz1 hz2 rfl (by decide) _ l _ hown ⟨w.heap.size, 0, none⟩ 1 1 [.int .i64 z] rfl (one_newD w _ 3) (one_oneCell _ _) (by unfold maxLen; omega) (by omega) (size_newD w _ B hB)
  obtain ⟨a', c', rfl⟩ := own_form ho
  refine ⟨a', c', w', hr, ⟨by simp [h.len], by simpa using ho, fun u hu => ?_⟩, fun k hk => ?_, ?_⟩
  · rcases List.mem_append.1 hu with hu | hu
    · exact h.wf u hu
    · simp at hu; subst hu; exact hz
  · obtain ⟨y, rfl, rfl⟩ := hk
    rcases hb with hb | hb
    · exact .inl (blk_ownBlock hb.symm)
    · have e : some y.block = some (w.alloc (.cells #[.int .i64 z] 3)).drew.heap.size := hb
      have e' : y.block = w.heap.size + 1 := by
        have := Option.some.inj e
        simpa [World.drew] using this
      exact .inr (by omega)
  · have h1 : w.heap.size ≤ (w.alloc (.cells #[.int .i64 z] 3)).drew.heap.size := size_newD w _ _ (Nat.le_refl _)
    refine ⟨hg.os, hg.tape, hg.output, Nat.le_trans h1 hg.size, fun k hk hc => (hg.block k (Nat.lt_of_lt_of_le hk h1) fun e => ?_).trans ((below_new (Below.refl w.heap.size w) _).block k hk)⟩
    have hk' := blk_ownBlock e.symm
    rcases hc with hc | hc
    · have := (h.block hk').1
      omega
    · exact hc.1 hk'

/-- its pages are in another row: what the struct holds alone is asked -/
theorem SeqAt.newP {B : Nat} {w w' : World} {x b : Nat} {t : ByteArray} {wd : Nat} {q : Sq} {a a' : Option Addr} {c c' : Nat} (h : SeqAt B w x b t wd q a c) (e : w'.heap[x]? = w.heap[x]?) (P : List Int) (hp : RowI B w' a' P.length c' P) :
    SeqAt B (w'.setCell ⟨x, 5, none⟩ (.slice a' P.length c')) x b t wd ⟨P, q.st, q.n⟩ a' c' ∧ OffS B (fun _ => false) (fun k => k = x) w' (w'.setCell ⟨x, 5, none⟩ (.slice a' P.length c')) := by
  have ht := h.top.of_block e
  have os : OffS B (fun _ => false) (fun k => k = x) w' (w'.setCell ⟨x, 5, none⟩ (.slice a' P.length c')) := OffS.set (S := fun k => k = x) h.Bx rfl 5 _
  have o : ∀ j, j ≠ 5 → (w'.setCell ⟨x, 5, none⟩ (.slice a' P.length c')).cell? ⟨x, j, none⟩ = w.cell? ⟨x, j, none⟩ := fun j hj => (World.cell?_setCell_other _ _ _ _ (by simp [hj])).trans (cell_of_block e j)
  refine ⟨⟨h.Bx, ht.set 5 _, (o 0 (by decide)).trans h.c0, (o 1 (by decide)).trans h.c1, (o 2 (by decide)).trans h.c2, (o 3 (by decide)).trans h.c3, (o 4 (by decide)).trans h.c4, World.cell?_setCell_same _ _ _ ((cell_of_block e 5).trans h.c5), hp.offS os rfl (fun k hk e => ?_)⟩, os⟩
  obtain ⟨_, m, hr⟩ := hp.block hk
  exact hr.ne ht (by decide) e

theorem takeR_one {m : Nat} {s : Pl} (hG : Good m s) {t : ByteArray} (h0 : takeE s t 1 = 0) : takeR s t 1 = [takenZ s t] ∧ 0 ≤ takenZ s t ∧ takenZ s t < (s.n : Int) ∧ (s.pg (takenZ s t).toNat).ow = 0 := by
  obtain ⟨t0, t1, t2⟩ := takeE_zero h0
  have ha := hG.a0
  have e : takeR s t 1 = tk s.pg 1 s.n := by unfold takeR; rw [if_pos h0]; rfl
  have hl : (tk s.pg 1 s.n).length = 1 := by
    have := tk_len s.pg 1 s.n
    omega
  obtain ⟨z, hz⟩ := List.length_eq_one_iff.1 hl
  have ez : takenZ s t = z := by unfold takenZ; rw [e, hz]; rfl
  rw [e, ez]
  have hm : z ∈ tk s.pg 1 s.n := by rw [hz]; simp
  obtain ⟨z0, z1⟩ := tk_lt s.pg 1 s.n z hm
  refine ⟨hz, z0, z1, ?_⟩
  obtain ⟨x, rfl⟩ : ∃ x : Nat, z = (x : Int) := ⟨z.toNat, by omega⟩
  exact ((tk_mem s.pg 1 s.n x).1 hm).2.1
theorem taken_wf {m : Nat} {s : Pl} (hG : Good m s) {t : ByteArray} (h0 : takeE s t 1 = 0) : (Lit.int .i64 (takenZ s t)).wf = true := by
  obtain ⟨_, h1, h2, _⟩ := takeR_one hG h0
  have := hG.n1
  exact wf_i64 (by omega) (by omega)

end Go.Proofs.Ytgjjeggopeppfaa
