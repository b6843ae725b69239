/- The program reads weights out of pages: the contract of Fetch. -/
import Derived.Test.YtfggkkhehaafcaaRows
import Derived.Test.YtfggkkhehaafcaaPages
import Derived.Test.YtfggkkhehaafcaaView
import Derived.Test.YtfggkkhehaafcaaOwn
import Derived.Test.YtfggkkhehaafcaaReadsP
import Derived.Test.YtfggkkhehaafcaaReadsQ
import Derived.Test.YtfggkkhehaafcaaLeast
import Derived.Test.YtfggkkhehaafcaaLays
import Derived.Test.YtfggkkhehaafcaaTurns
import Derived.Test.YtfggkkhehaafcaaGoods
import Derived.Test.YtfggkkhehaafcaaPlain
import Derived.Test.YtfggkkhehaafcaaNeeds
import Derived.Test.YtfggkkhehaafcaaInvIn
import Derived.Test.YtfggkkhehaafcaaPlace
import Derived.WalkKit
import Derived.ProofKit
import Derived.OpenShut
import Derived.Below
import Derived.WalkLawsBesides
import Derived.Deep.QuietTactic
import Derived.BigQuiet
import Derived.RangeFuncNested
import Derived.RangeFuncBox
import Derived.RangeFuncBound
import Derived.RangeFuncCalls
import Derived.RangeFuncLeaves
import Derived.Shelf.Abstract
import Derived.Shelf.RegionOpen
import Derived.OwnWalkIn
import Derived.TacticsInMore
import Derived.LoopNIn
import Derived.LoopIn
import Derived.Maps.AppendAt
namespace Go.Proofs.Ytfggkkhehaafcaa
open Go.ChangeShapes Go.WideShapes Go.ChangeAt Go.RowKit
set_option linter.unusedVariables false

/-- a row of small numbers of the call's own -/
structure RowB (B : Nat) (w : World) (a : Option Addr) (l c : Nat) (zs : List Int) : Prop where
  len : zs.length = l
  own : w.ownsRow B 59 1 (.slice a l c) l (zs.map (Value.int .i8))
  wf : ∀ z ∈ zs, (Lit.int .i8 z).wf = true
theorem RowB.nil (B : Nat) (w : World) : RowB B w none 0 0 [] := ⟨rfl, World.ownsRow_nil _ _ _ _, by simp⟩
theorem bytes_at (zs : List Int) (j : Nat) (h : j < zs.length) : (zs.map (Value.int .i8))[j]? = some (.int .i8 (zs.getD j 0)) := by simp [List.getD, h]
theorem RowB.reads {B : Nat} {w : World} {a : Option Addr} {l c : Nat} {zs : List Int} (h : RowB B w a l c zs) : Reads .i8 w a l zs :=
  own_reads_at h.own h.len h.wf (fun j hj => bytes_at _ j (by rw [h.len]; exact hj))
theorem RowB.off {B B' : Nat} {T : TypeId → Bool} {w w' : World} {a : Option Addr} {l c : Nat} {zs : List Int} (h : RowB B w a l c zs) (o : Off B' T w w') (hT : T 59 = false) : RowB B w' a l c zs := ⟨h.len, own_off h.own o hT, h.wf⟩
theorem RowB.mono {B B' : Nat} {w : World} {a : Option Addr} {l c : Nat} {zs : List Int} (h : RowB B w a l c zs) (hB : B' ≤ B) : RowB B' w a l c zs := by
  refine ⟨h.len, ⟨h.own.1, ?_⟩, h.wf⟩
  rcases h.own.2 with h1 | ⟨g, cap, cur, h1, h2, h3⟩
  · exact .inl h1
  · exact .inr ⟨g, cap, cur, h1, Nat.le_trans hB h2, h3⟩
theorem info59 : (Try.prog.info? 59).map (fun i => (i.zero, i.size, i.bytes)) = some (some (.int .i8 0), 1, 1) := by kernel_rfl
theorem wf_i8 {z : Int} (h0 : -128 ≤ z) (h1 : z ≤ 127) : (Lit.int .i8 z).wf = true := by simpa [Lit.wf, IntKind.min, IntKind.max, IntKind.signed, IntKind.bits] using And.intro h0 h1
theorem wrap_i8 {z : Int} (h0 : -128 ≤ z) (h1 : z ≤ 127) : IntKind.i8.wrap z = z := by
  simp [IntKind.wrap, IntKind.signed, IntKind.bits]
  omega
theorem stepE_lt {s : Pl} {x : Int × Int} : 0 ≤ stepE s x ∨ stepE s x < 0 := by omega

theorem boxed_grown {w w1 : World} {k : Nat} {t : TypeId} {v : Value} {row : Option Nat} (h : Boxed w k t v) (hg : w.grownBy w1 row) (hr : row ≠ some k) : Boxed w1 k t v := (hg.block k h.lt (fun e => hr e.symm)).trans h

/-- between two rounds of Fetch's loop; M: where the loop's own blocks begin -/
structure FtI (B : Nat) (w : World) (b g : Nat) (s : Pl) (bp : Nat) (a1 : Option Addr) (l1 p1 : Nat) (pre : List (Int × Int)) (W : World) : Prop where
  ok : fetE s pre = 0
  b3 : Boxed W w.heap.size 24 (.pointer (some ⟨b, 0, none⟩))
  r6 : Boxed W (w.heap.size + 1) 37 (.slice none 0 0)
  r7 : Boxed W (w.heap.size + 2) 25 (.int .i64 0)
  b8 : ∃ v, Boxed W (w.heap.size + 3) 37 v ∧ W.ownsRow w.heap.size 59 1 v pre.length ((fetV s pre).map (Value.int .i8))
  bx : Boxed W bp 58 (.slice a1 l1 p1)
  pool : PoolAt B W b g s
  bel : Below w.heap.size w W

/-- where a round has left -/
structure FtX (B : Nat) (w : World) (b g : Nat) (s : Pl) (pre : List (Int × Int)) (W : World) : Prop where
  ne : fetE s pre ≠ 0
  r6 : Boxed W (w.heap.size + 1) 37 (.slice none 0 0)
  r7 : Boxed W (w.heap.size + 2) 25 (.int .i64 (fetE s pre))
  pool : PoolAt B W b g s
  bel : Below w.heap.size w W

theorem below_kept {w w1 w2 : World} {M : Nat} {row : Option Nat} (o : Below w.heap.size w w1) (hM : w.heap.size ≤ M) (hg : w1.grownBy w2 row) (hr : ∀ r, row = some r → M ≤ r) : Below w.heap.size w w2 :=
  ⟨hg.os.trans o.os, hg.tape.trans o.tape, hg.output.trans o.output, Nat.le_trans o.size hg.size, fun k hk => (hg.block k (Nat.lt_of_lt_of_le hk o.size) (fun e => by have := hr k e.symm; omega)).trans (o.block k hk)⟩

theorem FtI.own {B : Nat} {w : World} {b g : Nat} {s : Pl} {bp : Nat} {a1 : Option Addr} {l1 p1 M : Nat} (hM : w.heap.size ≤ M) : OwnFrom M (FtI B w b g s bp a1 l1 p1) :=
  fun pre A C row h hg hr => by
    have hr' : ∀ r, row = some r → ∃ o : Obj, A.heap[r]? = some o ∧ o.isCells = false := fun r e => (hr r e).2
    obtain ⟨v, h8, ho⟩ := h.b8
    exact ⟨h.ok, boxed_kept h.b3 hg hr', boxed_kept h.r6 hg hr', boxed_kept h.r7 hg hr', ⟨v, boxed_kept h8 hg hr', own_kept ho hg hr'⟩, boxed_kept h.bx hg hr', h.pool.kept hg hr', below_kept h.bel hM hg (fun r e => (hr r e).1)⟩
theorem FtX.own {B : Nat} {w : World} {b g : Nat} {s : Pl} {M : Nat} (hM : w.heap.size ≤ M) (c : Code) : OwnFrom M (fun pre W => c = .ret ∧ FtX B w b g s pre W) :=
  fun pre A C row ⟨hc, h⟩ hg hr => by
    have hr' : ∀ r, row = some r → ∃ o : Obj, A.heap[r]? = some o ∧ o.isCells = false := fun r e => (hr r e).2
    exact ⟨hc, h.ne, boxed_kept h.r6 hg hr', boxed_kept h.r7 hg hr', h.pool.kept hg hr', below_kept h.bel hM hg (fun r e => (hr r e).1)⟩

theorem PoolAt.set_other {B : Nat} {w : World} {b g k : Nat} {s : Pl} {t : TypeId} {v u : Value} (h : PoolAt B w b g s) (hk : Boxed w k t v) (h1 : t ≠ 65) (h2 : t ≠ 93) : PoolAt B (w.setCell ⟨k, 0, none⟩ u) b g s :=
  h.of_blocks (Below.heap_setCell w ⟨k, 0, none⟩ u b (h.top.ne (t' := t) (m' := 1) ⟨_, hk, rfl⟩ (Ne.symm h1))) (Below.heap_setCell w ⟨k, 0, none⟩ u g (h.row.ne (t' := t) (m' := 1) ⟨_, hk, rfl⟩ (Ne.symm h2)))

/-- a round that leaves with an error -/
theorem FtI.leave {B : Nat} {w : World} {b g : Nat} {s : Pl} {bp : Nat} {a1 : Option Addr} {l1 p1 M : Nat} {pre : List (Int × Int)} {W : World} {x : Int × Int} (h : FtI B w b g s bp a1 l1 p1 pre W) (E : Int) (hE : E ≠ 0) (hx : stepE s x = E) :
    KeepsFrom M W ((W.setCell ⟨w.heap.size + 1, 0, none⟩ (.slice none 0 0)).setCell ⟨w.heap.size + 2, 0, none⟩ (.int .i64 E)) ∧ FtX B w b g s (pre ++ [x]) ((W.setCell ⟨w.heap.size + 1, 0, none⟩ (.slice none 0 0)).setCell ⟨w.heap.size + 2, 0, none⟩ (.int .i64 E)) := by
  have e : fetE s (pre ++ [x]) = E := by rw [fetE_snoc s pre x h.ok, hx]
  have q6 := h.r6.set (.slice none 0 0)
  have q7 := boxed_set_other (u := .slice none 0 0) (k' := w.heap.size + 1) h.r7 (by omega)
  have p1 := h.pool.set_other (u := .slice none 0 0) h.r6 (by decide) (by decide)
  have p2 := p1.set_other (u := .int .i64 E) q7 (by decide) (by decide)
  refine ⟨((KeepsOthers.setCell _ _ _).trans (KeepsOthers.setCell _ _ _)).from _, by rw [e]; exact hE, boxed_set_other q6 (by omega), by rw [e]; exact q7.set _, p2, ?_⟩
  exact (h.bel.setCell (p := ⟨w.heap.size + 1, 0, none⟩) (by simp) _).setCell (p := ⟨w.heap.size + 2, 0, none⟩) (by simp) _

end Go.Proofs.Ytfggkkhehaafcaa
