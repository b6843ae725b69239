/- KvForks at its start and at its end; rows of pointers, read. -/
import Derived.Test.YtgjjeggopeppfaaRows
import Derived.Test.YtgjjeggopeppfaaPages
import Derived.Test.YtgjjeggopeppfaaView
import Derived.Test.YtgjjeggopeppfaaOwn
import Derived.Test.YtgjjeggopeppfaaLeast
import Derived.Test.YtgjjeggopeppfaaLays
import Derived.Test.YtgjjeggopeppfaaTurns
import Derived.Test.YtgjjeggopeppfaaGoods
import Derived.Test.YtgjjeggopeppfaaNews
import Derived.Test.YtgjjeggopeppfaaCount
import Derived.Test.YtgjjeggopeppfaaLies
import Derived.Test.YtgjjeggopeppfaaRefPg
import Derived.Test.YtgjjeggopeppfaaRefTk
import Derived.Test.YtgjjeggopeppfaaSeqs
import Derived.Test.YtgjjeggopeppfaaSeqAt
import Derived.Test.YtgjjeggopeppfaaSeqRd
import Derived.Test.YtgjjeggopeppfaaReadsP
import Derived.Test.YtgjjeggopeppfaaReadsQ
import Derived.Test.YtgjjeggopeppfaaAppend
import Derived.Test.YtgjjeggopeppfaaManySq
import Derived.Test.YtgjjeggopeppfaaManyRoom
import Derived.Test.YtgjjeggopeppfaaManyActs
import Derived.Test.YtgjjeggopeppfaaSeqsIn
import Derived.Test.YtgjjeggopeppfaaSolo
import Derived.Test.YtgjjeggopeppfaaOpenOps
import Derived.Test.YtgjjeggopeppfaaFkS
import Derived.WalkKit
import Derived.ProofKit
import Derived.OpenShut
import Derived.Below
import Derived.WalkLawsBesides
import Derived.Deep.QuietTactic
import Derived.BigQuiet
import Derived.OwnWalk
import Derived.Laws.OwnMore
namespace Go.Proofs.Ytgjjeggopeppfaa
open Go.ChangeShapes Go.WideShapes Go.ChangeAt Go.RowKit
set_option linter.unusedVariables false
set_option linter.unusedSimpArgs false

/-- an append whose run is known -/
theorem wpList_append_run {P : Program} {w : World} {ops : Array Oper} {rest : List Oper} {o : Oper} {a : Act} {Q : Exit → Act → World → Prop} (hgd : o.guard = none) (s x : Operand) (t : TypeId) (ho : o.op = .call { callee := .builtin .append, args := #[s, x], argTypes := #[t, t] })
    (ty : TypeId) (hty : o.type = ty) (V1 V2 : Value) (hs : a.eval s = V1) (hx : a.eval x = V2) (v' : Value) (w' : World) (hrun : (Builtin.append_ #[t, t] ty #[V1, V2]).run P w = .ok v' w') (h : wpList P ops Q rest (a.put o.dst v') w') : wpList P ops Q (o :: rest) a w := by
  refine wpList_plain hgd fun K hK => ?_
  subst hty
  unfold Oper.wp
  simp [execOp, ho, resolve, invoke, builtin, hs, hx, hrun, Result.andThen]
  exact hK _ _ h
theorem own_cell_at {w : World} {B : Nat} {X : Nat → Nat} {x : Addr} {K c i : Nat} (h : w.ownsRow B 31 1 (.slice (some x) K c) K (ptrs X K)) (hi : i < K) : w.cell? (x.add i) = some (.pointer (some ⟨X i, 0, none⟩)) := by
  obtain ⟨y, ey, hc⟩ := own_cell h (ptrs_at X K i hi)
  obtain rfl := Option.some.inj ey
  exact hc
theorem own_zero {w : World} {B : Nat} {e : TypeId} {y : Addr} {K c g : Nat} {cs : List Value} (h : w.ownsRow B e 1 (.slice (some y) K c) K cs) (hb : (Value.slice (some y) K c).ownBlock = some g) : y = ⟨g, 0, none⟩ := by
  rcases h.2 with ⟨h1, _⟩ | ⟨g', cap, cur, h1, _⟩
  · cases h1
  · simp only [Value.slice.injEq, Option.some.injEq] at h1
    obtain ⟨rfl, _⟩ := h1
    have := Option.some.inj hb
    simp only at this
    rw [this]
theorem wrapU {K : Nat} (h : K ≤ 1000) : IntKind.u64.wrap (K : Int) = (K : Int) := by
  rw [IntKind.wrap_u64]
  omega
theorem fks_new {w W : World} {b g x wd : Nat} (hp : SeqsIn w.heap.size W b g tR wd (newPl 64) 1 (fun _ => ⟨[], 0, 0⟩) (fun _ => x)) (hb : Below w.heap.size w W) (w0 : 1 ≤ wd) (w1 : wd ≤ 32) :
    FkS w.heap.size w ((W.alloc (.cells #[.pointer (some ⟨x, 0, none⟩)] 31)).alloc (.cells #[.slice none 0 0] 39)) b g wd 1 (newPl 64) (fun _ => ⟨[], 0, 0⟩) (fun _ => x) (fun _ => []) (fun _ => ⟨none, 0, 0⟩) (.slice (some ⟨W.heap.size, 0, none⟩) 1 1) (.slice (some ⟨W.heap.size + 1, 0, none⟩) 1 1) := by
  have hB : w.heap.size ≤ W.heap.size := hb.size
  have b1 := below_new (Below.refl W.heap.size W) (.cells #[.pointer (some ⟨x, 0, none⟩)] 31)
  have b2 := below_new b1 (.cells #[.slice none 0 0] 39)
  have o9 : (W.alloc (.cells #[.pointer (some ⟨x, 0, none⟩)] 31)).ownsRow w.heap.size 31 1 (.slice (some ⟨W.heap.size, 0, none⟩) 1 1) 1 [.pointer (some ⟨x, 0, none⟩)] := World.ownsRow_lit W #[_] 1 hB (by decide) rfl
  have o10 := World.ownsRow_lit (base := w.heap.size) (e := 39) (size := 1) (W.alloc (.cells #[.pointer (some ⟨x, 0, none⟩)] 31)) #[.slice none 0 0] 1 (by simp; omega) (by decide) rfl
  rw [World.size_alloc] at o10
  refine ⟨hp.below b2, many_new 64 tR wd (by decide) (by decide) tR_ne w0 w1, fun i hi k h1 h2 => ?_, o9.alloc _, o10, fun j hj => RowJ.nil _ _, fun j hj => rfl, fun j hj z hz => by simp at hz, Nat.le_refl _, below_then hb b2, Nat.le_refl _⟩
  have : k < 0 := h2
  omega
/-- when all have let go -/
structure FkE (B : Nat) (w wr : World) (b g wd K : Nat) (s : Pl) (Q : Nat → Sq) (X : Nat → Nat) (v9 : Value) (i : Nat) : Prop where
  seqs : SeqsIn B wr b g tR wd s K Q X
  many : Many 64 tR wd s K Q
  own9 : wr.ownsRow B 31 1 v9 K (ptrs X K)
  below : Below B w wr
  gone : ∀ j, j < i → j < K → (Q j).P = []
theorem FkE.step {B : Nat} {w wr w' : World} {b g wd K : Nat} {s : Pl} {Q : Nat → Sq} {X : Nat → Nat} {v9 : Value} {i : Nat} (h : FkE B w wr b g wd K s Q X v9 i) (hi : i < K) (hs : SeqsIn B w' b g tR wd (endS s (Q i)) K (upd Q i (endQ (Q i))) X) (ho : Off B TS wr w') : FkE B w w' b g wd K (endS s (Q i)) (upd Q i (endQ (Q i))) X v9 (i + 1) :=
  ⟨hs, (h.many.end_ hi).1, own_off h.own9 ho rfl, h.below.trans (ho.below h.seqs.lt), fun j hj hK => by
    by_cases e : j = i
    · subst e; rw [upd_same]; rfl
    · rw [upd_other _ _ _ _ e]; exact h.gone j (by omega) hK⟩
theorem FkS.fin {B : Nat} {w wr : World} {b g wd K : Nat} {s : Pl} {Q : Nat → Sq} {X : Nat → Nat} {E : Nat → List Int} {Y : Nat → SL} {v9 v10 : Value} (h : FkS B w wr b g wd K s Q X E Y v9 v10) : FkE B w wr b g wd K s Q X v9 0 := ⟨h.seqs, h.many, h.own9, h.below, fun j hj => by omega⟩

end Go.Proofs.Ytgjjeggopeppfaa
