/- Steps of a region that draws its order: a call that changes nothing; an append of one number to a row of the call's own. -/
import Derived.Test.YtcpnakghndfdpaaRows
import Derived.Test.YtcpnakghndfdpaaView
import Derived.Test.YtcpnakghndfdpaaKnFloats
import Derived.Test.YtcpnakghndfdpaaOwn
import Derived.WalkKit
import Derived.ProofKit
import Derived.OpenShut
import Derived.Below
import Derived.Deep.QuietTactic
import Derived.BigQuiet
import Derived.Laws.FloatArith
import Derived.Deep.RegionLaw
import Derived.Laws.AppendOwnNone
namespace Go.Proofs.Ytcpnakghndfdpaa

set_option maxRecDepth 20000

open Go.ChangeShapes Go.WideShapes Go.ChangeAt Go.RowKit

set_option linter.unusedVariables false

/-- all that a slice of numbers reads as, nil or not, appended to a row of the call's own; the operation may stand behind a guard -/
theorem wpList_copy {P : Program} {ops : Array Oper} {rest : List Oper} {o : Oper} {a : Act} {w : World} {Q : Exit → Act → World → Prop} (hw : Region.wanted o (yielded ops a.tmps) = true) (s x : Operand) (t : TypeId)
    (ho : o.op = .call { callee := .builtin .append, args := #[s, x], argTypes := #[t, t] })
    (base : Nat) (e : TypeId) (i : TypeInfo) (z : Value) (bytes : Nat) (ht : P.underlying t = some (.slice e)) (hi : P.info? e = some i) (hz : i.zero = some z)
    (hsize : i.size = 1) (hby : i.bytes = bytes) (hzs : z.cells.size = 1)
    (v : Value) (n : Nat) (xs : List Value) (hs : a.eval s = v) (hown : w.ownsRow base e 1 v n xs)
    (k : IntKind) (ao : Option Addr) (m c : Nat) (zs : List Int) (hx : a.eval x = .slice ao m c) (hr : Reads k w ao m zs) (hc : ao = none → c = 0)
    (h63 : n + m ≤ maxLen) (hbytes : (n + m) * bytes ≤ 140737488355328) (hbase : base ≤ w.heap.size)
    (h : ∀ v' w', w'.ownsRow base e 1 v' (n + m) (xs ++ zs.map (Value.int k)) → w.grownBy w' v.ownBlock → wpList P ops Q rest (a.put o.dst v') w') : wpList P ops Q (o :: rest) a w := by
  refine wpList_step fun K hK => ?_
  rw [if_pos hw]
  cases ao with
  | none =>
    obtain rfl := hc rfl
    have hm : m = 0 := by
      by_cases h0 : 0 < m
      · obtain ⟨x, hx⟩ := hr.some_ h0
        cases hx
      · omega
    subst hm
    obtain rfl := List.eq_nil_of_length_eq_zero hr.len
    have hrun := run_append_owned_none (P := P) (w := w) base t o.type e i 1 ht hi v n xs hown
    unfold Oper.wp
    simp [execOp, ho, resolve, invoke, builtin, hs, hx, hrun, Result.andThen]
    exact hK _ _ (h v w (by simpa using hown) (World.grownBy.refl _ _))
  | some ad =>
    refine wp_append_own w s x t ho base e i z 1 bytes ht hi hz hsize hby hzs (by decide) v n xs hs hown ad m c (zs.map (Value.int k)) hx (by rw [List.length_map, hr.len]; omega) (fun j u hu => ?_) (ints_oneCell _ _) h63 hbytes hbase fun v' w' h2 h3 _ => hK _ _ (h v' w' h2 h3)
    have hj : j < m := by
      have := (List.getElem?_eq_some_iff.1 hu).1
      rw [List.length_map, hr.len] at this
      exact this
    rw [hr.cell ad rfl j hj, ← hu]
    simp [hr.len, hj]

/-- a row just copied reads as what it was copied from -/
theorem copy_at (k : IntKind) (zs : List Int) (j : Nat) (h : j < zs.length) : (zs.map (Value.int k))[j]? = some (.int k (zs.getD j 0)) := by
  simp [h]

theorem copied {k : IntKind} {e : TypeId} {w W w1 : World} {m : Nat} {zs : List Int} {v : Value} (hb : Below w.heap.size w W) (o : Obj)
    (ho : w1.ownsRow w.heap.size e 1 v (0 + m) ([] ++ zs.map (Value.int k))) (hg : (W.alloc o).grownBy w1 (Value.slice (some ⟨W.heap.size, 0, none⟩) 0 0).ownBlock) {a : Option Addr} {wz : World} (hr : Reads k wz a m zs) :
    ∃ a c, v = .slice a m c ∧ Reads k w1 a m zs ∧ Below w.heap.size w w1 ∧ (a = none → c = 0) ∧ m ≤ c := by
  simp only [Nat.zero_add, List.nil_append] at ho
  obtain ⟨a', c', rfl, r⟩ := own_reads ho hr.len hr.wf_mem (fun j hj => copy_at k zs j (by rw [hr.len]; exact hj))
  have b1 := below_new hb o
  refine ⟨a', c', rfl, r, b1.grown hg b1.size (fun g h => ?_), fun ha => ?_, ?_⟩
  · have : g = W.heap.size := by simpa [Value.ownBlock] using h.symm
    rw [this]
    exact hb.size
  · subst ha
    rcases ho.2 with ⟨h, _⟩ | ⟨g, cap, cur, h, _⟩
    · simp only [Value.slice.injEq] at h
      exact h.2.2
    · simp at h
  · rcases ho.2 with ⟨h, _⟩ | ⟨g, cap, cur, h, _, _, hn, _⟩
    · omega
    · simp only [Value.slice.injEq] at h
      omega

end Go.Proofs.Ytcpnakghndfdpaa
