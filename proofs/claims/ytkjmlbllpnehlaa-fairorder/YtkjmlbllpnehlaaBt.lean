/- Both sides beside each other. -/
import Derived.Test.YtkjmlbllpnehlaaRows
import Derived.Test.YtkjmlbllpnehlaaView
import Derived.Test.YtkjmlbllpnehlaaOwn
import Derived.Test.YtkjmlbllpnehlaaBase
import Derived.Test.YtkjmlbllpnehlaaOpenOps
import Derived.Test.YtkjmlbllpnehlaaFkZ
import Derived.Test.YtkjmlbllpnehlaaFkBy
import Derived.Test.YtkjmlbllpnehlaaFkAt
import Derived.Test.YtkjmlbllpnehlaaFkRd
import Derived.Test.YtkjmlbllpnehlaaFkFd
import Derived.Test.YtkjmlbllpnehlaaFkNext
import Derived.Test.YtkjmlbllpnehlaaFkAdd
import Derived.Test.YtkjmlbllpnehlaaFkCan
import Derived.Test.YtkjmlbllpnehlaaFkNew
import Derived.Test.YtkjmlbllpnehlaaFkWorks
import Derived.Test.YtkjmlbllpnehlaaRfAt
import Derived.Test.YtkjmlbllpnehlaaRfRd
import Derived.Test.YtkjmlbllpnehlaaRfOut
import Derived.Test.YtkjmlbllpnehlaaRfAdd
import Derived.Test.YtkjmlbllpnehlaaRfNext
import Derived.WalkKit
import Derived.ProofKit
import Derived.OpenShut
import Derived.Below
import Derived.WalkLawsBesides
import Derived.Deep.QuietTactic
import Derived.BigQuiet
import Derived.OwnWalk
namespace Go.Proofs.Ytkjmlbllpnehlaa
set_option maxRecDepth 20000
open Go.ChangeShapes Go.WideShapes Go.ChangeAt Go.RowKit
set_option linter.unusedVariables false
set_option linter.unusedSimpArgs false

theorem RfAt.mono {B B' : Nat} {w : World} {f : Nat} {p : Rp} {s : Fr} (h : RfAt B w f p s) (hB : B' ≤ B) : RfAt B' w f p s :=
  ⟨Nat.le_trans hB h.Bf, Nat.le_trans hB h.BC, h.top, h.t0, h.t1, h.t2, h.t3, h.rW, h.rC, h.w0, h.c0, own_mono h.own hB, h.ne⟩
/-- a variable that holds an act -/
structure BoxAt (w : World) (x : Nat) (o : OpV) : Prop where
  row : Row 32 w x 4
  c0 : w.cell? ⟨x, 0, none⟩ = some (.int .i64 o.k)
  c1 : w.cell? ⟨x, 1, none⟩ = some (.int .i64 o.t)
  c2 : w.cell? ⟨x, 2, none⟩ = some (.int .i64 o.i)
  c3 : w.cell? ⟨x, 3, none⟩ = some (.int .i64 o.c)
theorem BoxAt.of_block {w w' : World} {x : Nat} {o : OpV} (h : BoxAt w x o) (e : w'.heap[x]? = w.heap[x]?) : BoxAt w' x o :=
  ⟨h.row.of_block e, (cell_of_block e _).trans h.c0, (cell_of_block e _).trans h.c1, (cell_of_block e _).trans h.c2, (cell_of_block e _).trans h.c3⟩
theorem BoxAt.off {B : Nat} {T : TypeId → Bool} {w w' : World} {x : Nat} {o : OpV} (h : BoxAt w x o) (f : Off B T w w') (hT : T 32 = false) : BoxAt w' x o := h.of_block (f.row h.row hT)
theorem BoxAt.below {w w' : World} {x : Nat} {o : OpV} (h : BoxAt w x o) (f : Below w.heap.size w w') : BoxAt w' x o := h.of_block (f.block x h.row.lt)
theorem BoxAt.new (w : World) (k t i c : Int) : BoxAt (w.alloc (.cells #[.int .i64 k, .int .i64 t, .int .i64 i, .int .i64 c] 32)) w.heap.size ⟨k, t, i, c⟩ := by
  have e := heap_alloc_new w (.cells #[.int .i64 k, .int .i64 t, .int .i64 i, .int .i64 c] 32)
  refine ⟨⟨_, e, rfl⟩, ?_, ?_, ?_, ?_⟩ <;> (unfold World.cell?; rw [e]; rfl)
/-- the program's tenants and the document's, in one state -/
structure Bt (B : Nat) (w0 w : World) (f F : Nat) (s : Fr) : Prop where
  p : ∃ g A, FrAt B w f g A s
  r : ∃ q, RfAt B w F q s
  b : Below B w0 w
theorem Bt.le {B : Nat} {w0 w : World} {f F : Nat} {s : Fr} (h : Bt B w0 w f F s) : B ≤ w.heap.size := by obtain ⟨g, A, hF⟩ := h.p; exact hF.lt.2.2
theorem Bt.below {B : Nat} {w0 w : World} {f F : Nat} {s : Fr} (h : Bt B w0 w f F s) {w' : World} (hb : Below w.heap.size w w') : Bt B w0 w' f F s := by
  obtain ⟨g, A, hF⟩ := h.p
  obtain ⟨q, hR⟩ := h.r
  exact ⟨⟨g, A, hF.below hb⟩, ⟨q, hR.below hb⟩, h.b.trans (hb.mono h.le)⟩
theorem Bt.drew {B : Nat} {w0 w : World} {f F : Nat} {s : Fr} (h : Bt B w0 w f F s) : Bt B w0 w.drew f F s := h.below (below_drew (Below.refl _ _) ⟨1, rfl⟩)
theorem Bt.prog {B : Nat} {w0 w : World} {f F : Nat} {s : Fr} (h : Bt B w0 w f F s) {w' : World} {s' : Fr} (h1 : ∃ g A, FrAt B w' f g A s') (o : Off B TF w w') : (∃ q, RfAt B w' F q s) ∧ Below B w0 w' := by
  obtain ⟨q, hR⟩ := h.r
  exact ⟨⟨q, hR.off o rfl rfl rfl⟩, h.b.trans (o.below h.le)⟩
theorem bt_add {B : Nat} {w0 w : World} {f F : Nat} {s : Fr} (h : Bt B w0 w f F s) {k : Nat} (hk : FrOk k s) (hk1 : k ≤ 1000000) (hlen : s.L.length ≤ 1000) (z id co : Int) : Calls Try.prog 9 #[.pointer (some ⟨f, 0, none⟩), .int .i64 z, .int .i64 id, .int .i64 co] w fun e w1 => e = .returned (.int .i64 (addE s z id co)) ∧ (∀ x o, BoxAt w x o → BoxAt w1 x o) ∧
    (Calls Try.prog 10 #[.pointer (some ⟨F, 0, none⟩), .int .i64 z, .int .i64 id, .int .i64 co] w1 fun e w2 => e = .returned (.int .i64 (addE s z id co)) ∧ Bt B w0 w2 f F (addS s z id co) ∧ (∀ x o, BoxAt w1 x o → BoxAt w2 x o)) := by
  obtain ⟨g, A, hF⟩ := h.p
  refine (add_call hF hk hk1 z id co).mono ?_
  rintro e w1 ⟨h1, ⟨A', h2⟩, h3⟩
  obtain ⟨⟨q, hR⟩, hb⟩ := h.prog ⟨g, A', h2⟩ h3
  refine ⟨h1, fun x o hx => hx.off h3 rfl, (radd_call hR hk hk1 hlen z id co).mono ?_⟩
  rintro e w2 ⟨r1, r2, r3⟩
  exact ⟨r1, ⟨⟨g, A', h2.off r3 rfl rfl rfl⟩, r2, hb.trans (r3.below hR.lt.2)⟩, fun x o hx => hx.off r3 rfl⟩
theorem bt_next {B : Nat} {w0 w : World} {f F : Nat} {s : Fr} (h : Bt B w0 w f F s) {k : Nat} (hk : FrOk k s) (hk1 : k ≤ 1000000) (hlen : s.L.length ≤ 1000) : Calls Try.prog 11 #[.pointer (some ⟨f, 0, none⟩)] w fun e w1 => e = .returned (nextV (nextO s)) ∧ (∀ x o, BoxAt w x o → BoxAt w1 x o) ∧
    (Calls Try.prog 12 #[.pointer (some ⟨F, 0, none⟩)] w1 fun e w2 => e = .returned (nextV (nextO s)) ∧ Bt B w0 w2 f F (nextS s) ∧ (∀ x o, BoxAt w1 x o → BoxAt w2 x o)) := by
  obtain ⟨g, A, hF⟩ := h.p
  refine (next_call hF hk hk1).mono ?_
  rintro e w1 ⟨h1, ⟨A', h2⟩, h3⟩
  obtain ⟨⟨q, hR⟩, hb⟩ := h.prog ⟨g, A', h2⟩ h3
  refine ⟨h1, fun x o hx => hx.off h3 rfl, (rnext_call hR hk hk1 hlen).mono ?_⟩
  rintro e w2 ⟨r1, r2, r3⟩
  exact ⟨r1, ⟨⟨g, A', h2.off r3 rfl rfl rfl⟩, r2, hb.trans (r3.below hR.lt.2)⟩, fun x o hx => hx.off r3 rfl⟩
theorem bt_cancel {B : Nat} {w0 w : World} {f F : Nat} {s : Fr} (h : Bt B w0 w f F s) {k : Nat} (hk : FrOk k s) (hlen : s.L.length ≤ 1000) (id : Int) : Calls Try.prog 13 #[.pointer (some ⟨f, 0, none⟩), .int .i64 id] w fun e w1 => e = .returned (.bool (hasB s.L id)) ∧ (∀ x o, BoxAt w x o → BoxAt w1 x o) ∧
    (Calls Try.prog 14 #[.pointer (some ⟨F, 0, none⟩), .int .i64 id] w1 fun e w2 => e = .returned (.bool (hasB s.L id)) ∧ Bt B w0 w2 f F (canS s id) ∧ (∀ x o, BoxAt w1 x o → BoxAt w2 x o)) := by
  obtain ⟨g, A, hF⟩ := h.p
  refine (cancel_call hF hk id).mono ?_
  rintro e w1 ⟨h1, ⟨A', h2⟩, h3⟩
  obtain ⟨⟨q, hR⟩, hb⟩ := h.prog ⟨g, A', h2⟩ h3
  refine ⟨h1, fun x o hx => hx.off h3 rfl, (rcancel_call hR hk id hlen).mono ?_⟩
  rintro e w2 ⟨r1, r2, r3⟩
  exact ⟨r1, ⟨⟨g, A', h2.off r3 rfl rfl rfl⟩, r2, hb.trans (r3.below hR.lt.2)⟩, fun x o hx => hx.off r3 rfl⟩
theorem bt_tells {B : Nat} {w0 w : World} {f F : Nat} {s : Fr} (h : Bt B w0 w f F s) {k : Nat} (hk : FrOk k s) (z : Int) :
    (Calls Try.prog 15 #[.pointer (some ⟨f, 0, none⟩), .int .i64 z] w fun e w' => e = .returned (.int .i64 (waitZ s z : Int)) ∧ w' = w) ∧
    (Calls Try.prog 16 #[.pointer (some ⟨F, 0, none⟩), .int .i64 z] w fun e w' => e = .returned (.int .i64 (waitZ s z : Int)) ∧ w' = w) ∧
    (Calls Try.prog 17 #[.pointer (some ⟨f, 0, none⟩), .int .i64 z] w fun e w' => e = .returned (.int .i64 (clockZ s z)) ∧ w' = w) ∧
    (Calls Try.prog 18 #[.pointer (some ⟨F, 0, none⟩), .int .i64 z] w fun e w' => e = .returned (.int .i64 (clockZ s z)) ∧ w' = w) := by
  obtain ⟨g, A, hF⟩ := h.p
  obtain ⟨q, hR⟩ := h.r
  exact ⟨waiting_call hF hk.n4 z, rwaiting_call hR hk z, clock_call hF hk.n4 z, rclock_call hR hk.n4 z⟩
theorem addS_len (s : Fr) (z id co : Int) : (addS s z id co).L.length ≤ s.L.length + 1 := by
  unfold addS
  split
  · show (s.L ++ [(⟨z.toNat, id, co⟩ : It)]).length ≤ _
    simp
  · omega
theorem out_len (L : List It) (id : Int) : (outL L id).length ≤ L.length := List.length_filter_le _ _
theorem nextS_len (s : Fr) : (nextS s).L.length ≤ s.L.length := by
  unfold nextS
  cases nextO s with
  | none => exact Nat.le_refl _
  | some x => exact out_len _ _
theorem canS_len (s : Fr) (id : Int) : (canS s id).L.length ≤ s.L.length := out_len _ _

end Go.Proofs.Ytkjmlbllpnehlaa
