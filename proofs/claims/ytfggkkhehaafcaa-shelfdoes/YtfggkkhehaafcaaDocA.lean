/- Texts put together: DsAt, DsReg, DsRd, DsHand, DsRes, DsUnp, DsRead, DsApp, DsRoom, DsYield, DsOut, DsRem, DsMore. -/
import Derived.Test.YtfggkkhehaafcaaRows
import Derived.Test.YtfggkkhehaafcaaPages
import Derived.Test.YtfggkkhehaafcaaView
import Derived.Test.YtfggkkhehaafcaaOwn
import Derived.Test.YtfggkkhehaafcaaReadsP
import Derived.Test.YtfggkkhehaafcaaReadsQ
import Derived.Test.YtfggkkhehaafcaaLeast
import Derived.Test.YtfggkkhehaafcaaLays
import Derived.Test.YtfggkkhehaafcaaNews
import Derived.Test.YtfggkkhehaafcaaGoods
import Derived.Test.YtfggkkhehaafcaaPlain
import Derived.Test.YtfggkkhehaafcaaFetch
import Derived.Test.YtfggkkhehaafcaaShPlain
import Derived.Test.YtfggkkhehaafcaaShActs
import Derived.Test.YtfggkkhehaafcaaShAt
import Derived.Test.YtfggkkhehaafcaaWorksK
import Derived.Test.YtfggkkhehaafcaaOpenOps
import Derived.WalkKit
import Derived.ProofKit
import Derived.OpenShut
import Derived.Below
import Derived.WalkLawsBesides
import Derived.Deep.QuietTactic
import Derived.BigQuiet
import Derived.Maps.OwnSet
import Derived.Laws.OwnMore
import Derived.Test.YtfggkkhehaafcaaInvIn
import Derived.Test.YtfggkkhehaafcaaPutReg
import Derived.RangeFuncNested
import Derived.RangeFuncBox
import Derived.RangeFuncBound
import Derived.RangeFuncCalls
import Derived.RangeFuncLeaves
import Derived.Shelf.Abstract
import Derived.Shelf.RegionOpen
import Derived.OwnWalkIn
import Derived.TacticsInMore
import Derived.LoopNIn
import Derived.LoopIn
import Derived.Orders
import Derived.Test.YtfggkkhehaafcaaIndex
import Derived.Test.YtfggkkhehaafcaaRefPg
import Derived.Test.YtfggkkhehaafcaaRefRd
import Derived.Test.YtfggkkhehaafcaaNeeds
import Derived.Test.YtfggkkhehaafcaaPlace
import Derived.Test.YtfggkkhehaafcaaFetched
import Derived.Test.YtfggkkhehaafcaaMapV
import Derived.Test.YtfggkkhehaafcaaShLoose
import Derived.Test.YtfggkkhehaafcaaShBring
import Derived.Maps.AppendAt
import Derived.OwnWalk
import Derived.Deep.RegionHeld3
import Derived.Test.YtfggkkhehaafcaaRelease
import Derived.Test.YtfggkkhehaafcaaRefRel
import Derived.Test.YtfggkkhehaafcaaCopies
namespace Go.Proofs.Ytfggkkhehaafcaa

/- The document's shelf in memory. -/
section
open Go.ChangeShapes Go.WideShapes Go.ChangeAt Go.RowKit
set_option linter.unusedVariables false
set_option linter.unusedSimpArgs false

/-- an item of the document's shelf: what it is, and where its weights and its pages lie -/
structure DI where
  it : It
  sw : SL
  sp : SL
def DI.cells (x : DI) : List Value := [.string x.it.nm, .slice x.sw.a x.sw.n x.sw.c, .slice x.sp.a x.sp.n x.sp.c, .bool x.it.is, .int .i64 (x.it.pins : Int)]
def cellsD (D : List DI) : List Value := D.flatMap DI.cells
theorem cells5 (x : DI) : x.cells.length = 5 := rfl
theorem cellsD_len (D : List DI) : (cellsD D).length = D.length * 5 := by
  unfold cellsD
  induction D with
  | nil => rfl
  | cons x r ih => rw [List.flatMap_cons, List.length_append, ih, cells5, List.length_cons]; omega
theorem cellsD_append (D E : List DI) : cellsD (D ++ E) = cellsD D ++ cellsD E := by simp [cellsD]
theorem cellsD_cons (x : DI) (D : List DI) : cellsD (x :: D) = x.cells ++ cellsD D := by simp [cellsD]
theorem cellsD_at {D : List DI} {i : Nat} {x : DI} (h : D[i]? = some x) {f : Nat} (hf : f < 5) : (cellsD D)[i * 5 + f]? = x.cells[f]? := by
  induction D generalizing i with
  | nil => cases h
  | cons u r ih =>
    rw [cellsD_cons]
    cases i with
    | zero =>
      obtain rfl : u = x := by simpa using h
      rw [Nat.zero_mul, Nat.zero_add, List.getElem?_append_left (by rw [cells5]; exact hf)]
    | succ i =>
      rw [List.getElem?_append_right (by rw [cells5]; omega), cells5, show (i + 1) * 5 + f - 5 = i * 5 + f by omega]
      exact ih (by simpa using h)
theorem cellsD_take (D : List DI) (i : Nat) : (cellsD D).take (i * 5) = cellsD (D.take i) := by
  induction D generalizing i with
  | nil => simp [cellsD]
  | cons x r ih =>
    cases i with
    | zero => simp [cellsD]
    | succ i =>
      rw [List.take_succ_cons, cellsD_cons, cellsD_cons, ← ih, List.take_append, cells5, show (i + 1) * 5 - 5 = i * 5 by omega, List.take_of_length_le (by rw [cells5]; omega)]
theorem cellsD_drop (D : List DI) (i : Nat) : (cellsD D).drop (i * 5) = cellsD (D.drop i) := by
  induction D generalizing i with
  | nil => simp [cellsD]
  | cons x r ih =>
    cases i with
    | zero => simp [cellsD]
    | succ i =>
      rw [List.drop_succ_cons, cellsD_cons, ← ih, List.drop_append, cells5, show (i + 1) * 5 - 5 = i * 5 by omega, List.drop_of_length_le (by rw [cells5]; omega), List.nil_append]
theorem cellsD_set {D : List DI} {i : Nat} {x : DI} (h : D[i]? = some x) {f : Nat} (hf : f < 5) (u : Value) (x' : DI) (e : x'.cells = x.cells.set f u) : (cellsD D).set (i * 5 + f) u = cellsD (D.set i x') := by
  induction D generalizing i with
  | nil => cases h
  | cons v r ih =>
    cases i with
    | zero =>
      obtain rfl : v = x := by simpa using h
      rw [List.set_cons_zero, cellsD_cons, cellsD_cons, e, Nat.zero_mul, Nat.zero_add, List.set_append_left _ _ (by rw [cells5]; exact hf)]
    | succ i =>
      rw [List.set_cons_succ, cellsD_cons, cellsD_cons, List.set_append_right _ _ (by rw [cells5]; omega), cells5, show (i + 1) * 5 + f - 5 = i * 5 + f by omega, ih (by simpa using h)]

/-- the document's shelf in memory -/
structure DsAt (B : Nat) (w : World) (y p : Nat) (a : Option Addr) (c : Nat) (D : List DI) : Prop where
  top : Row 36 w y 2
  By : B ≤ y
  c0 : w.cell? ⟨y, 0, none⟩ = some (.pointer (some ⟨p, 0, none⟩))
  c1 : w.cell? ⟨y, 1, none⟩ = some (.slice a D.length c)
  own : w.ownsRow B 82 5 (.slice a D.length c) D.length (cellsD D)
  its : ∀ x ∈ D, RowB B w x.sw.a x.sw.n x.sw.c x.it.W ∧ RowI B w x.sp.a x.sp.n x.sp.c x.it.P
def TD (t : TypeId) : Bool := t == 36 || t == 82 || t == 59 || t == 3

theorem DsAt.keep {B : Nat} {w : World} {y p : Nat} {a : Option Addr} {c : Nat} {D : List DI} (h : DsAt B w y p a c D) {w' : World} (hk : ∀ i t, i < w.heap.size → typeOf w i = some t → TD t = true → w'.heap[i]? = w.heap[i]?) : DsAt B w' y p a c D := by
  have kr : ∀ {t i m}, Row t w i m → TD t = true → w'.heap[i]? = w.heap[i]? := fun r hT => hk _ _ r.lt r.type hT
  have ey := kr h.top rfl
  refine ⟨h.top.of_block ey, h.By, (World.cell?_of_block (w := w) ey).trans h.c0, (World.cell?_of_block (w := w) ey).trans h.c1, own_keep h.own fun k hb => ?_, fun x hx => ⟨(h.its x hx).1.keep fun k hb => ?_, ?_⟩⟩
  · obtain ⟨_, m, r⟩ := own_blk h.own hb
    exact kr r rfl
  · obtain ⟨_, m, r⟩ := own_blk (h.its x hx).1.own hb
    exact kr r rfl
  · have q := (h.its x hx).2
    exact ⟨q.len, own_keep q.own fun k hb => by
      obtain ⟨_, m, r⟩ := own_blk q.own hb
      exact kr r rfl, q.wf⟩
theorem DsAt.below {B : Nat} {w : World} {y p : Nat} {a : Option Addr} {c : Nat} {D : List DI} (h : DsAt B w y p a c D) {w' : World} (hb : Below w.heap.size w w') : DsAt B w' y p a c D := h.keep fun i t hi _ _ => hb.block i hi
theorem DsAt.drewN {B : Nat} {w : World} {y p : Nat} {a : Option Addr} {c : Nat} {D : List DI} (h : DsAt B w y p a c D) (m : Nat) : DsAt B (w.drewN m) y p a c D := h.keep fun _ _ _ _ _ => rfl
theorem DsAt.off {B : Nat} {w : World} {y p : Nat} {a : Option Addr} {c : Nat} {D : List DI} {B' : Nat} {T : TypeId → Bool} (h : DsAt B w y p a c D) {w' : World} (o : Off B' T w w') (h1 : T 36 = false) (h2 : T 82 = false) (h3 : T 59 = false) (h4 : T 3 = false) : DsAt B w' y p a c D := h.keep fun i t hi ht hT => by
  refine o.block i hi (.inr fun u hu => ?_)
  rw [ht] at hu
  obtain rfl := Option.some.inj hu
  unfold TD at hT
  simp only [Bool.or_eq_true, beq_iff_eq] at hT
  rcases hT with ((rfl | rfl) | rfl) | rfl <;> assumption
theorem DsAt.form {B : Nat} {w : World} {y p : Nat} {a : Option Addr} {c : Nat} {D : List DI} (h : DsAt B w y p a c D) : (a = none ∧ D.length = 0 ∧ c = 0) ∨ ∃ g, a = some ⟨g, 0, none⟩ ∧ B ≤ g ∧ D.length ≤ c ∧ c ≤ maxLen := by
  rcases h.own.2 with ⟨h1, h2⟩ | ⟨g', cap, cur, h1, h2, h3, h4, h5, h6, h7⟩
  · simp only [Value.slice.injEq] at h1
    exact .inl ⟨h1.1, h2, h1.2.2⟩
  · simp only [Value.slice.injEq] at h1
    obtain ⟨rfl, _, rfl⟩ := h1
    exact .inr ⟨g', rfl, h2, h4, h5⟩
theorem DsAt.some_ {B : Nat} {w : World} {y p : Nat} {a : Option Addr} {c : Nat} {D : List DI} (h : DsAt B w y p a c D) {i : Nat} {x : DI} (hi : D[i]? = some x) : ∃ g, a = some ⟨g, 0, none⟩ ∧ B ≤ g ∧ D.length ≤ c ∧ c ≤ maxLen ∧ i < D.length ∧
    w.cell? ⟨g, i * 5, none⟩ = some (.string x.it.nm) ∧ w.cell? ⟨g, i * 5 + 1, none⟩ = some (.slice x.sw.a x.sw.n x.sw.c) ∧ w.cell? ⟨g, i * 5 + 2, none⟩ = some (.slice x.sp.a x.sp.n x.sp.c) ∧ w.cell? ⟨g, i * 5 + 3, none⟩ = some (.bool x.it.is) ∧ w.cell? ⟨g, i * 5 + 4, none⟩ = some (.int .i64 (x.it.pins : Int)) := by
  have hl := (List.getElem?_eq_some_iff.1 hi).1
  rcases h.form with ⟨_, h2, _⟩ | ⟨g, rfl, h1, h2, h3⟩
  · omega
  · have q : ∀ f, f < 5 → w.cell? ⟨g, i * 5 + f, none⟩ = x.cells[f]? := fun f hf => by
      rw [h.own.cellAt (i * 5 + f) (by omega), cellsD_at hi hf]
    exact ⟨g, rfl, h1, h2, h3, hl, q 0 (by decide), q 1 (by decide), q 2 (by decide), q 3 (by decide), q 4 (by decide)⟩
/-- one part of an item is written -/
theorem DsAt.set {B : Nat} {w : World} {y p : Nat} {a : Option Addr} {c : Nat} {D : List DI} (h : DsAt B w y p a c D) {g i f : Nat} {x x' : DI} (ha : a = some ⟨g, 0, none⟩) (hi : D[i]? = some x) (hf : f < 5) (u : Value) (e : x'.cells = x.cells.set f u) (hx' : RowB B w x'.sw.a x'.sw.n x'.sw.c x'.it.W ∧ RowI B w x'.sp.a x'.sp.n x'.sp.c x'.it.P) :
    DsAt B (w.setCell ⟨g, i * 5 + f, none⟩ u) y p a c (D.set i x') ∧ w.frozen? ⟨g, i * 5 + f, none⟩ = false ∧ Off B (fun t => t == 82) w (w.setCell ⟨g, i * 5 + f, none⟩ u) := by
  subst ha
  have hl := (List.getElem?_eq_some_iff.1 hi).1
  obtain ⟨_, m, r⟩ := own_blk h.own ⟨_, rfl, rfl⟩
  have o : Off B (fun t => t == 82) w (w.setCell ⟨g, i * 5 + f, none⟩ u) := Off.set r (own_blk h.own ⟨_, rfl, rfl⟩).1 rfl (i * 5 + f) u
  have hlen : (D.set i x').length = D.length := List.length_set
  have st := h.own.stored (i * 5 + f) u
  rw [cellsD_set hi hf u x' e] at st
  have kr : ∀ {t k m}, Row t w k m → (t == 82) = false → (w.setCell ⟨g, i * 5 + f, none⟩ u).heap[k]? = w.heap[k]? := fun r hT => o.row r hT
  have ey := kr h.top rfl
  have kB : ∀ {q : SL} {W : List Int}, RowB B w q.a q.n q.c W → RowB B (w.setCell ⟨g, i * 5 + f, none⟩ u) q.a q.n q.c W := fun q => q.off o rfl
  have kI : ∀ {q : SL} {W : List Int}, RowI B w q.a q.n q.c W → RowI B (w.setCell ⟨g, i * 5 + f, none⟩ u) q.a q.n q.c W := fun q => q.off o rfl
  refine ⟨⟨h.top.of_block ey, h.By, (World.cell?_of_block (w := w) ey).trans h.c0, ?_, ?_, fun z hz => ?_⟩, h.own.frozenAt _, o⟩
  · rw [hlen]; exact (World.cell?_of_block (w := w) ey).trans h.c1
  · rw [hlen]; exact st.1
  · rcases List.mem_or_eq_of_mem_set hz with hz | rfl
    · exact ⟨kB (h.its z hz).1, kI (h.its z hz).2⟩
    · exact ⟨kB hx'.1, kI hx'.2⟩
end

/- Regions of the document's shelf that copy a row and lay it anew, whatever the order. -/
section
open Go.ChangeShapes Go.WideShapes Go.ChangeAt Go.RowKit
set_option linter.unusedVariables false
set_option linter.unusedSimpArgs false

def ouD (i : Nat) : Option Nat := match i with | 0 => some 4 | 1 => some 5 | 2 => some 6 | 3 => some 7 | 4 => some 8 | 5 => some 9 | 6 => some 10 | 7 => some 11 | 8 => some 12 | 9 => some 13 | 10 => some 14 | 11 => some 15 | 12 => some 16 | 13 => some 17 | 14 => some 18 | 15 => some 19 | 16 => some 20 | 17 => some 21 | 18 => some 22 | _ => none
theorem ouD_inj : ∀ i, i < 20 → ∀ j, j < 20 → ouD i = ouD j → ouD i ≠ none → i = j := by decide
theorem ouD_lt : ∀ i, i < 20 → ∀ d, ouD i = some d → d < 23 := by
  intro i hi d h
  have : ∀ i, i < 20 → (ouD i).all (fun d => decide (d < 23)) = true := by decide
  have := this i hi
  rw [h] at this
  simpa using this
def ouF (y g0 : Nat) (K0 K1 : Int) (sa : Option Addr) (sn sc : Nat) (ta : Option Addr) (tn tc : Nat) (ua : Option Addr) (un uc : Nat) (va : Option Addr) (vn vc : Nat) (da : Option Addr) (dn dc : Nat) (i : Nat) (q : Value) : Prop := match i with
  | 0 => q = .pointer (some ⟨y, 0, none⟩)
  | 1 => q = .slice (some ⟨g0, 0, none⟩) 0 0
  | 2 => q = .pointer (some ⟨y, 0, none⟩)
  | 3 => q = .pointer (some ⟨y, 0, none⟩)
  | 4 => q = .pointer (some ⟨y, 1, none⟩)
  | 5 => q = .slice sa sn sc
  | 6 => q = .int .i64 K0
  | 7 => q = .slice ta tn tc
  | 8 => q = .slice va vn vc
  | 9 => q = .pointer (some ⟨y, 0, none⟩)
  | 10 => q = .pointer (some ⟨y, 0, none⟩)
  | 11 => q = .pointer (some ⟨y, 1, none⟩)
  | 12 => q = .slice sa sn sc
  | 13 => q = .int .i64 K0
  | 14 => q = .int .i64 K1
  | 15 => q = .slice ua un uc
  | 16 => q = .slice da dn dc
  | 17 => q = .pointer (some ⟨y, 0, none⟩)
  | 18 => q = .pointer (some ⟨y, 1, none⟩)
  | _ => True
def ouR (w0 W1 W2 W3 W4 : World) (l : Nat → Bool) (w : World) : Prop := (l 1 = false → w = w0.drew) ∧ (l 1 = true → l 8 = false → w = W1) ∧ (l 8 = true → l 16 = false → w = W2) ∧ (l 16 = true → l 19 = false → w = W3) ∧ (l 19 = true → w = W4)

set_option maxHeartbeats 8000000 in
theorem ou_region {id : Nat} {ops : Array Oper} {Q : Exit → Act → World → Prop} {a0 : Act} {w0 : World} (y g0 : Nat) (K0 K1 : Int) (sa : Option Addr) (sn sc : Nat) (ta : Option Addr) (tn tc : Nat) (ua : Option Addr) (un uc : Nat) (va : Option Addr) (vn vc : Nat) (da : Option Addr) (dn dc : Nat) (W1 W2 W3 W4 : World) (S : World → Prop) (hlow : lowB ops = true) (hsz : ops.size = 20)
    (o0 : OpIn ops 0 (some 4) (.move (.tmp 0)) none []) (o1 : OpIn ops 1 (some 5) (.buildSlice 34 0 #[]) none []) (o2 : OpIn ops 2 (some 6) (.move (.tmp 0)) none []) (o3 : OpIn ops 3 (some 7) (.nilCheck (.tmp 6)) none [2]) (o4 : OpIn ops 4 (some 8) (.fieldAddr 36 (.tmp 7) 1) none [3]) (o5 : OpIn ops 5 (some 9) (.load 34 (.tmp 8)) none [4]) (o6 : OpIn ops 6 (some 10) (.move (.tmp 1)) none []) (o7 : OpIn ops 7 (some 11) (.slice 34 (.tmp 9) none (some (.tmp 10)) none) none [5, 6]) (o8 : OpIn ops 8 (some 12) (.call { callee := .builtin .append, args := #[.tmp 5, .tmp 11], argTypes := #[34, 34] }) none [1, 7]) (o9 : OpIn ops 9 (some 13) (.move (.tmp 0)) none []) (o10 : OpIn ops 10 (some 14) (.nilCheck (.tmp 13)) none [9]) (o11 : OpIn ops 11 (some 15) (.fieldAddr 36 (.tmp 14) 1) none [10]) (o12 : OpIn ops 12 (some 16) (.load 34 (.tmp 15)) none [11]) (o13 : OpIn ops 13 (some 17) (.move (.tmp 1)) none []) (o14 : OpIn ops 14 (some 18) (.binOp .add 3 (.tmp 17) (.const (.int .i64 1)) 3) none [13]) (o15 : OpIn ops 15 (some 19) (.slice 34 (.tmp 16) (some (.tmp 18)) none none) none [12, 14]) (o16 : OpIn ops 16 (some 20) (.call { callee := .builtin .append, args := #[.tmp 12, .tmp 19], argTypes := #[34, 34] }) none [8, 15]) (o17 : OpIn ops 17 (some 21) (.nilCheck (.tmp 4)) none [0]) (o18 : OpIn ops 18 (some 22) (.fieldAddr 36 (.tmp 21) 1) none [17]) (o19 : OpIn ops 19 none (.store 34 (.tmp 22) (.tmp 20)) none [16, 18])
    (ty8 : TypeId) (hty8 : ∀ o, ops[8]? = some o → o.type = ty8)
    (ty16 : TypeId) (hty16 : ∀ o, ops[16]? = some o → o.type = ty16)
    (hS0 : S (w0.drew)) (hS1 : S (W1)) (hS2 : S (W2)) (hS3 : S (W3))
    (x1 : (Instr.buildSlice 34 0 #[]).run Try.prog (w0.drew) = .ok (.slice (some ⟨g0, 0, none⟩) 0 0) W1)
    (x4 : ∀ w, (Instr.fieldAt 36 (.pointer (some ⟨y, 0, none⟩)) 1).run Try.prog w = .ok (.pointer (some ⟨y, 1, none⟩)) w)
    (x5 : ∀ w, S w → (Instr.loadAt 34 (.pointer (some ⟨y, 1, none⟩))).run Try.prog w = .ok (.slice sa sn sc) w)
    (x7 : ∀ w, (Instr.sliceAt 34 (.slice sa sn sc) none (some (.int .i64 K0)) none).run Try.prog w = .ok (.slice ta tn tc) w)
    (x8 : (Builtin.append_ #[34, 34] ty8 #[.slice (some ⟨g0, 0, none⟩) 0 0, .slice ta tn tc]).run Try.prog (W1) = .ok (.slice va vn vc) W2)
    (x11 : ∀ w, (Instr.fieldAt 36 (.pointer (some ⟨y, 0, none⟩)) 1).run Try.prog w = .ok (.pointer (some ⟨y, 1, none⟩)) w)
    (x12 : ∀ w, S w → (Instr.loadAt 34 (.pointer (some ⟨y, 1, none⟩))).run Try.prog w = .ok (.slice sa sn sc) w)
    (x14 : ∀ w, (binOp .add 3 (.int .i64 K0) (.int .i64 1)).run Try.prog w = .ok (.int .i64 K1) w)
    (x15 : ∀ w, (Instr.sliceAt 34 (.slice sa sn sc) (some (.int .i64 K1)) none none).run Try.prog w = .ok (.slice ua un uc) w)
    (x16 : (Builtin.append_ #[34, 34] ty16 #[.slice va vn vc, .slice ua un uc]).run Try.prog (W2) = .ok (.slice da dn dc) W3)
    (x18 : ∀ w, (Instr.fieldAt 36 (.pointer (some ⟨y, 0, none⟩)) 1).run Try.prog w = .ok (.pointer (some ⟨y, 1, none⟩)) w)
    (x19 : (Instr.storeAt 34 (.pointer (some ⟨y, 1, none⟩)) (.slice da dn dc)).run Try.prog (W3) = .ok () W4)
    (u0 : a0.tmps.getD 0 undef = .pointer (some ⟨y, 0, none⟩))
    (u1 : a0.tmps.getD 1 undef = .int .i64 K0)
    (hs : 23 ≤ a0.tmps.size)
    (fin : ∀ a, a.tmps.size = a0.tmps.size → a.defers = a0.defers → (∀ s, (∀ i, i < 20 → ouD i ≠ some s) → a.tmps.getD s undef = a0.tmps.getD s undef) → (∀ i d, i < 20 → ouD i = some d → ouF y g0 K0 K1 sa sn sc ta tn tc ua un uc va vn vc da dn dc i (a.tmps.getD d undef)) → Q .normal a W4) : (Code.region id ops true).wp Try.prog Q a0 w0 := by
  refine wp_region_inv2 (by kernel_rfl) hlow (Inv 20 ouD a0 (fun l _ w => ouR w0 W1 W2 W3 W4 l w) (fun _ i q _ => ouF y g0 K0 K1 sa sn sc ta tn tc ua un uc va vn vc da dn dc i q)) (Inv.start ⟨fun _ => rfl, (fun h => by cases h), (fun h => by cases h), (fun h => by cases h), (fun h => by cases h)⟩) ?_ ?_
  · intro l i o a w ho hl hcl hdep hI
    have hi : i < 20 := by rw [← hsz]; exact (Array.getElem?_eq_some_iff.1 ho).1
    have ev : ∀ (s : Nat), a.eval (.tmp s) = a.tmps.getD s undef := fun _ => rfl
    have evc : ∀ c : Value, a.eval (.const c) = c := fun _ => rfl
    have inj : ∀ d, ouD i = some d → ∀ j d', j < 20 → ouD j = some d' → j ≠ i → d' ≠ d := fun d hd j d' hj hd' hne e => hne (ouD_inj j hj i hi (by rw [hd', hd, e]) (by rw [hd']; simp))
    have kp : ∀ s, (∀ i, i < 20 → ouD i ≠ some s) → a.tmps.getD s undef = a0.tmps.getD s undef := hI.kept
    have oth : ∀ j, j ≠ i → (l j || j == i) = l j := fun j hj => by rw [show (j == i) = false by simp [hj], Bool.or_false]
    have sam : (l i || i == i) = true := by simp
    have go : ∀ {d : Nat} {v : Value}, ouD i = some d → (i ≠ 1 ∧ i ≠ 8 ∧ i ≠ 16 ∧ i ≠ 19) → ouF y g0 K0 K1 sa sn sc ta tn tc ua un uc va vn vc da dn dc i v → Inv 20 ouD a0 (fun l _ w => ouR w0 W1 W2 W3 W4 l w) (fun _ i q _ => ouF y g0 K0 K1 sa sn sc ta tn tc ua un uc va vn vc da dn dc i q) (fun j => l j || j == i) (a.put (some d) v) w := by
      intro d v hD hi' hF
      refine hI.put hi hD (Nat.lt_of_lt_of_le (ouD_lt i hi d hD) hs) (inj d hD) ?_ hF (fun j u _ _ _ hf => hf)
      show ouR w0 W1 W2 W3 W4 _ w
      unfold ouR
      dsimp only
      rw [oth 1 (by omega), oth 8 (by omega), oth 16 (by omega), oth 19 (by omega)]
      exact hI.world
    have hSw : l 19 = false → S w := fun hc => by
      cases e0 : l 1 with
      | false => rw [hI.world.1 e0]; exact hS0
      | true =>
        cases e1 : l 8 with
        | false => rw [hI.world.2.1 e0 e1]; exact hS1
        | true =>
          cases e2 : l 16 with
          | false => rw [hI.world.2.2.1 e1 e2]; exact hS2
          | true =>
            rw [hI.world.2.2.2.1 e2 hc]; exact hS3
    rcases (show i = 0 ∨ i = 1 ∨ i = 2 ∨ i = 3 ∨ i = 4 ∨ i = 5 ∨ i = 6 ∨ i = 7 ∨ i = 8 ∨ i = 9 ∨ i = 10 ∨ i = 11 ∨ i = 12 ∨ i = 13 ∨ i = 14 ∨ i = 15 ∨ i = 16 ∨ i = 17 ∨ i = 18 ∨ i = 19 by omega) with rfl | rfl | rfl | rfl | rfl | rfl | rfl | rfl | rfl | rfl | rfl | rfl | rfl | rfl | rfl | rfl | rfl | rfl | rfl | rfl
    · obtain ⟨o', e1, e2, e3, e4, e5⟩ := o0
      obtain rfl := Option.some.inj (ho.symm.trans e1)
      have dp := dep_of' e5 hdep
      have U0 : a.tmps.getD 0 undef = .pointer (some ⟨y, 0, none⟩) := (kp 0 (by decide)).trans u0
      exact wpOp_value (v := .pointer (some ⟨y, 0, none⟩)) (w' := w) ho e4 (by simp [execOp, e3, ev, evc, U0]) (by rw [e2]; exact go rfl (by decide) rfl)
    · obtain ⟨o', e1, e2, e3, e4, e5⟩ := o1
      obtain rfl := Option.some.inj (ho.symm.trans e1)
      have dp := dep_of' e5 hdep
      have n8 : l 8 = false := by
        cases e : l 8 with
        | false => rfl
        | true =>
          exfalso
          have y0 := hcl.dep' o8 e 1 (by decide)
          rw [hl] at y0
          cases y0
      have n16 : l 16 = false := by
        cases e : l 16 with
        | false => rfl
        | true =>
          exfalso
          have y0 := hcl.dep' o16 e 8 (by decide)
          have y1 := hcl.dep' o8 y0 1 (by decide)
          rw [hl] at y1
          cases y1
      have n19 : l 19 = false := by
        cases e : l 19 with
        | false => rfl
        | true =>
          exfalso
          have y0 := hcl.dep' o19 e 16 (by decide)
          have y1 := hcl.dep' o16 y0 8 (by decide)
          have y2 := hcl.dep' o8 y1 1 (by decide)
          rw [hl] at y2
          cases y2
      obtain rfl : w = w0.drew := hI.world.1 hl
      refine wpOp_value (v := .slice (some ⟨g0, 0, none⟩) 0 0) (w' := W1) ho e4 (by simp [execOp, e3, ev, evc, x1]) ?_
      rw [e2]
      refine hI.put hi rfl (Nat.lt_of_lt_of_le (by decide) hs) (inj 5 rfl) ?_ rfl (fun j u _ _ _ hf => hf)
      show ouR _ _ _ _ _ _ _
      unfold ouR
      dsimp only
      rw [sam, oth 8 (by decide), oth 16 (by decide), oth 19 (by decide)]
      exact ⟨(fun h => by cases h), (fun _ _ => rfl), (fun h => by rw [n8] at h; cases h), (fun h => by rw [n16] at h; cases h), (fun h => by rw [n19] at h; cases h)⟩
    · obtain ⟨o', e1, e2, e3, e4, e5⟩ := o2
      obtain rfl := Option.some.inj (ho.symm.trans e1)
      have dp := dep_of' e5 hdep
      have U0 : a.tmps.getD 0 undef = .pointer (some ⟨y, 0, none⟩) := (kp 0 (by decide)).trans u0
      exact wpOp_value (v := .pointer (some ⟨y, 0, none⟩)) (w' := w) ho e4 (by simp [execOp, e3, ev, evc, U0]) (by rw [e2]; exact go rfl (by decide) rfl)
    · obtain ⟨o', e1, e2, e3, e4, e5⟩ := o3
      obtain rfl := Option.some.inj (ho.symm.trans e1)
      have dp := dep_of' e5 hdep
      have V2 : a.tmps.getD 6 undef = .pointer (some ⟨y, 0, none⟩) := hI.val 2 6 (by decide) rfl (dp 2 (by decide))
      exact wpOp_value (v := .pointer (some ⟨y, 0, none⟩)) (w' := w) ho e4 (by simp [execOp, e3, ev, evc, V2]) (by rw [e2]; exact go rfl (by decide) rfl)
    · obtain ⟨o', e1, e2, e3, e4, e5⟩ := o4
      obtain rfl := Option.some.inj (ho.symm.trans e1)
      have dp := dep_of' e5 hdep
      have V3 : a.tmps.getD 7 undef = .pointer (some ⟨y, 0, none⟩) := hI.val 3 7 (by decide) rfl (dp 3 (by decide))
      exact wpOp_value (v := .pointer (some ⟨y, 1, none⟩)) (w' := w) ho e4 (by simp [execOp, e3, ev, evc, V3, x4 w]) (by rw [e2]; exact go rfl (by decide) rfl)
    · obtain ⟨o', e1, e2, e3, e4, e5⟩ := o5
      obtain rfl := Option.some.inj (ho.symm.trans e1)
      have dp := dep_of' e5 hdep
      have V4 : a.tmps.getD 8 undef = .pointer (some ⟨y, 1, none⟩) := hI.val 4 8 (by decide) rfl (dp 4 (by decide))
      have n19 : l 19 = false := by
        cases e : l 19 with
        | false => rfl
        | true =>
          exfalso
          have y0 := hcl.dep' o19 e 16 (by decide)
          have y1 := hcl.dep' o16 y0 8 (by decide)
          have y2 := hcl.dep' o8 y1 7 (by decide)
          have y3 := hcl.dep' o7 y2 5 (by decide)
          rw [hl] at y3
          cases y3
      exact wpOp_value (v := .slice sa sn sc) (w' := w) ho e4 (by simp [execOp, e3, ev, evc, V4, x5 w (hSw n19)]) (by rw [e2]; exact go rfl (by decide) rfl)
    · obtain ⟨o', e1, e2, e3, e4, e5⟩ := o6
      obtain rfl := Option.some.inj (ho.symm.trans e1)
      have dp := dep_of' e5 hdep
      have U1 : a.tmps.getD 1 undef = .int .i64 K0 := (kp 1 (by decide)).trans u1
      exact wpOp_value (v := .int .i64 K0) (w' := w) ho e4 (by simp [execOp, e3, ev, evc, U1]) (by rw [e2]; exact go rfl (by decide) rfl)
    · obtain ⟨o', e1, e2, e3, e4, e5⟩ := o7
      obtain rfl := Option.some.inj (ho.symm.trans e1)
      have dp := dep_of' e5 hdep
      have V5 : a.tmps.getD 9 undef = .slice sa sn sc := hI.val 5 9 (by decide) rfl (dp 5 (by decide))
      have V6 : a.tmps.getD 10 undef = .int .i64 K0 := hI.val 6 10 (by decide) rfl (dp 6 (by decide))
      exact wpOp_value (v := .slice ta tn tc) (w' := w) ho e4 (by simp [execOp, e3, ev, evc, V5, V6, x7 w]) (by rw [e2]; exact go rfl (by decide) rfl)
    · obtain ⟨o', e1, e2, e3, e4, e5⟩ := o8
      obtain rfl := Option.some.inj (ho.symm.trans e1)
      have dp := dep_of' e5 hdep
      have V1 : a.tmps.getD 5 undef = .slice (some ⟨g0, 0, none⟩) 0 0 := hI.val 1 5 (by decide) rfl (dp 1 (by decide))
      have V7 : a.tmps.getD 11 undef = .slice ta tn tc := hI.val 7 11 (by decide) rfl (dp 7 (by decide))
      have n16 : l 16 = false := by
        cases e : l 16 with
        | false => rfl
        | true =>
          exfalso
          have y0 := hcl.dep' o16 e 8 (by decide)
          rw [hl] at y0
          cases y0
      have n19 : l 19 = false := by
        cases e : l 19 with
        | false => rfl
        | true =>
          exfalso
          have y0 := hcl.dep' o19 e 16 (by decide)
          have y1 := hcl.dep' o16 y0 8 (by decide)
          rw [hl] at y1
          cases y1
      have z1_0 := dp 1 (by decide)
      have d1 : l 1 = true := z1_0
      obtain rfl : w = W1 := hI.world.2.1 d1 hl
      refine wpOp_value (v := .slice va vn vc) (w' := W2) ho e4 (by simp only [execOp, e3, resolve, invoke, builtin, Sem.run_bind, Sem.run_pure, Result.andThen_ok, List.map_toArray, List.map_cons, List.map_nil, ev, V1, V7, hty8 _ ho, x8]) ?_
      rw [e2]
      refine hI.put hi rfl (Nat.lt_of_lt_of_le (by decide) hs) (inj 12 rfl) ?_ rfl (fun j u _ _ _ hf => hf)
      show ouR _ _ _ _ _ _ _
      unfold ouR
      dsimp only
      rw [sam, oth 1 (by decide), oth 16 (by decide), oth 19 (by decide)]
      exact ⟨(fun h => by rw [d1] at h; cases h), (fun _ h => by cases h), (fun _ _ => rfl), (fun h => by rw [n16] at h; cases h), (fun h => by rw [n19] at h; cases h)⟩
    · obtain ⟨o', e1, e2, e3, e4, e5⟩ := o9
      obtain rfl := Option.some.inj (ho.symm.trans e1)
      have dp := dep_of' e5 hdep
      have U0 : a.tmps.getD 0 undef = .pointer (some ⟨y, 0, none⟩) := (kp 0 (by decide)).trans u0
      exact wpOp_value (v := .pointer (some ⟨y, 0, none⟩)) (w' := w) ho e4 (by simp [execOp, e3, ev, evc, U0]) (by rw [e2]; exact go rfl (by decide) rfl)
    · obtain ⟨o', e1, e2, e3, e4, e5⟩ := o10
      obtain rfl := Option.some.inj (ho.symm.trans e1)
      have dp := dep_of' e5 hdep
      have V9 : a.tmps.getD 13 undef = .pointer (some ⟨y, 0, none⟩) := hI.val 9 13 (by decide) rfl (dp 9 (by decide))
      exact wpOp_value (v := .pointer (some ⟨y, 0, none⟩)) (w' := w) ho e4 (by simp [execOp, e3, ev, evc, V9]) (by rw [e2]; exact go rfl (by decide) rfl)
    · obtain ⟨o', e1, e2, e3, e4, e5⟩ := o11
      obtain rfl := Option.some.inj (ho.symm.trans e1)
      have dp := dep_of' e5 hdep
      have V10 : a.tmps.getD 14 undef = .pointer (some ⟨y, 0, none⟩) := hI.val 10 14 (by decide) rfl (dp 10 (by decide))
      exact wpOp_value (v := .pointer (some ⟨y, 1, none⟩)) (w' := w) ho e4 (by simp [execOp, e3, ev, evc, V10, x11 w]) (by rw [e2]; exact go rfl (by decide) rfl)
    · obtain ⟨o', e1, e2, e3, e4, e5⟩ := o12
      obtain rfl := Option.some.inj (ho.symm.trans e1)
      have dp := dep_of' e5 hdep
      have V11 : a.tmps.getD 15 undef = .pointer (some ⟨y, 1, none⟩) := hI.val 11 15 (by decide) rfl (dp 11 (by decide))
      have n19 : l 19 = false := by
        cases e : l 19 with
        | false => rfl
        | true =>
          exfalso
          have y0 := hcl.dep' o19 e 16 (by decide)
          have y1 := hcl.dep' o16 y0 15 (by decide)
          have y2 := hcl.dep' o15 y1 12 (by decide)
          rw [hl] at y2
          cases y2
      exact wpOp_value (v := .slice sa sn sc) (w' := w) ho e4 (by simp [execOp, e3, ev, evc, V11, x12 w (hSw n19)]) (by rw [e2]; exact go rfl (by decide) rfl)
    · obtain ⟨o', e1, e2, e3, e4, e5⟩ := o13
      obtain rfl := Option.some.inj (ho.symm.trans e1)
      have dp := dep_of' e5 hdep
      have U1 : a.tmps.getD 1 undef = .int .i64 K0 := (kp 1 (by decide)).trans u1
      exact wpOp_value (v := .int .i64 K0) (w' := w) ho e4 (by simp [execOp, e3, ev, evc, U1]) (by rw [e2]; exact go rfl (by decide) rfl)
    · obtain ⟨o', e1, e2, e3, e4, e5⟩ := o14
      obtain rfl := Option.some.inj (ho.symm.trans e1)
      have dp := dep_of' e5 hdep
      have V13 : a.tmps.getD 17 undef = .int .i64 K0 := hI.val 13 17 (by decide) rfl (dp 13 (by decide))
      exact wpOp_value (v := .int .i64 K1) (w' := w) ho e4 (by simp [execOp, e3, ev, evc, V13, x14 w, eqGuard]) (by rw [e2]; exact go rfl (by decide) rfl)
    · obtain ⟨o', e1, e2, e3, e4, e5⟩ := o15
      obtain rfl := Option.some.inj (ho.symm.trans e1)
      have dp := dep_of' e5 hdep
      have V12 : a.tmps.getD 16 undef = .slice sa sn sc := hI.val 12 16 (by decide) rfl (dp 12 (by decide))
      have V14 : a.tmps.getD 18 undef = .int .i64 K1 := hI.val 14 18 (by decide) rfl (dp 14 (by decide))
      exact wpOp_value (v := .slice ua un uc) (w' := w) ho e4 (by simp [execOp, e3, ev, evc, V12, V14, x15 w]) (by rw [e2]; exact go rfl (by decide) rfl)
    · obtain ⟨o', e1, e2, e3, e4, e5⟩ := o16
      obtain rfl := Option.some.inj (ho.symm.trans e1)
      have dp := dep_of' e5 hdep
      have V8 : a.tmps.getD 12 undef = .slice va vn vc := hI.val 8 12 (by decide) rfl (dp 8 (by decide))
      have V15 : a.tmps.getD 19 undef = .slice ua un uc := hI.val 15 19 (by decide) rfl (dp 15 (by decide))
      have n19 : l 19 = false := by
        cases e : l 19 with
        | false => rfl
        | true =>
          exfalso
          have y0 := hcl.dep' o19 e 16 (by decide)
          rw [hl] at y0
          cases y0
      have z1_0 := dp 8 (by decide)
      have z1_1 := hcl.dep' o8 z1_0 1 (by decide)
      have d1 : l 1 = true := z1_1
      have z8_0 := dp 8 (by decide)
      have d8 : l 8 = true := z8_0
      obtain rfl : w = W2 := hI.world.2.2.1 d8 hl
      refine wpOp_value (v := .slice da dn dc) (w' := W3) ho e4 (by simp only [execOp, e3, resolve, invoke, builtin, Sem.run_bind, Sem.run_pure, Result.andThen_ok, List.map_toArray, List.map_cons, List.map_nil, ev, V8, V15, hty16 _ ho, x16]) ?_
      rw [e2]
      refine hI.put hi rfl (Nat.lt_of_lt_of_le (by decide) hs) (inj 20 rfl) ?_ rfl (fun j u _ _ _ hf => hf)
      show ouR _ _ _ _ _ _ _
      unfold ouR
      dsimp only
      rw [sam, oth 1 (by decide), oth 8 (by decide), oth 19 (by decide)]
      exact ⟨(fun h => by rw [d1] at h; cases h), (fun _ h => by rw [d8] at h; cases h), (fun _ h => by cases h), (fun _ _ => rfl), (fun h => by rw [n19] at h; cases h)⟩
    · obtain ⟨o', e1, e2, e3, e4, e5⟩ := o17
      obtain rfl := Option.some.inj (ho.symm.trans e1)
      have dp := dep_of' e5 hdep
      have V0 : a.tmps.getD 4 undef = .pointer (some ⟨y, 0, none⟩) := hI.val 0 4 (by decide) rfl (dp 0 (by decide))
      exact wpOp_value (v := .pointer (some ⟨y, 0, none⟩)) (w' := w) ho e4 (by simp [execOp, e3, ev, evc, V0]) (by rw [e2]; exact go rfl (by decide) rfl)
    · obtain ⟨o', e1, e2, e3, e4, e5⟩ := o18
      obtain rfl := Option.some.inj (ho.symm.trans e1)
      have dp := dep_of' e5 hdep
      have V17 : a.tmps.getD 21 undef = .pointer (some ⟨y, 0, none⟩) := hI.val 17 21 (by decide) rfl (dp 17 (by decide))
      exact wpOp_value (v := .pointer (some ⟨y, 1, none⟩)) (w' := w) ho e4 (by simp [execOp, e3, ev, evc, V17, x18 w]) (by rw [e2]; exact go rfl (by decide) rfl)
    · obtain ⟨o', e1, e2, e3, e4, e5⟩ := o19
      obtain rfl := Option.some.inj (ho.symm.trans e1)
      have dp := dep_of' e5 hdep
      have V16 : a.tmps.getD 20 undef = .slice da dn dc := hI.val 16 20 (by decide) rfl (dp 16 (by decide))
      have V18 : a.tmps.getD 22 undef = .pointer (some ⟨y, 1, none⟩) := hI.val 18 22 (by decide) rfl (dp 18 (by decide))
      have z1_0 := dp 16 (by decide)
      have z1_1 := hcl.dep' o16 z1_0 8 (by decide)
      have z1_2 := hcl.dep' o8 z1_1 1 (by decide)
      have d1 : l 1 = true := z1_2
      have z8_0 := dp 16 (by decide)
      have z8_1 := hcl.dep' o16 z8_0 8 (by decide)
      have d8 : l 8 = true := z8_1
      have z16_0 := dp 16 (by decide)
      have d16 : l 16 = true := z16_0
      obtain rfl : w = W3 := hI.world.2.2.2.1 d16 hl
      refine wpOp_skip (w' := W4) ho e4 (by simp [execOp, e3, ev, evc, V16, V18, x19]) ?_
      rw [e2]
      refine hI.none_ rfl ?_ (fun j u _ _ _ hf => hf)
      show ouR _ _ _ _ _ _ _
      unfold ouR
      dsimp only
      rw [sam, oth 1 (by decide), oth 8 (by decide), oth 16 (by decide)]
      exact ⟨(fun h => by rw [d1] at h; cases h), (fun _ h => by rw [d8] at h; cases h), (fun _ h => by rw [d16] at h; cases h), (fun _ h => by cases h), (fun _ => rfl)⟩
  · intro l a w hall hI
    have all : ∀ j, j < 20 → l j = true := fun j hj => hall j (by rw [hsz]; exact hj)
    obtain rfl := hI.world.2.2.2.2 (all 19 (by decide))
    exact fin a hI.size hI.defers hI.kept (fun i d hi hD => hI.val i d hi hD (all i hi))

def duD (i : Nat) : Option Nat := match i with | 0 => some 21 | 1 => some 22 | 2 => some 23 | 3 => some 24 | 4 => some 25 | 5 => some 26 | 6 => some 27 | 7 => some 28 | 8 => some 29 | 9 => some 30 | 10 => some 31 | 11 => some 32 | 12 => some 33 | 13 => some 34 | _ => none
theorem duD_inj : ∀ i, i < 15 → ∀ j, j < 15 → duD i = duD j → duD i ≠ none → i = j := by decide
theorem duD_lt : ∀ i, i < 15 → ∀ d, duD i = some d → d < 35 := by
  intro i hi d h
  have : ∀ i, i < 15 → (duD i).all (fun d => decide (d < 35)) = true := by decide
  have := this i hi
  rw [h] at this
  simpa using this
def duF (y g0 : Nat) (n : ByteArray) (g1 : Nat) (IT : Value) (sa : Option Addr) (sn sc : Nat) (za : Option Addr) (zn zc : Nat) (va : Option Addr) (vn vc : Nat) (da : Option Addr) (dn dc : Nat) (i : Nat) (q : Value) : Prop := match i with
  | 0 => q = .pointer (some ⟨y, 0, none⟩)
  | 1 => q = .pointer (some ⟨y, 0, none⟩)
  | 2 => q = .pointer (some ⟨y, 0, none⟩)
  | 3 => q = .pointer (some ⟨y, 1, none⟩)
  | 4 => q = .slice sa sn sc
  | 5 => q = .string n
  | 6 => q = .slice (some ⟨g0, 0, none⟩) 0 0
  | 7 => q = .slice za zn zc
  | 8 => q = .slice va vn vc
  | 9 => q = IT
  | 10 => q = .slice (some ⟨g1, 0, none⟩) 1 1
  | 11 => q = .slice da dn dc
  | 12 => q = .pointer (some ⟨y, 0, none⟩)
  | 13 => q = .pointer (some ⟨y, 1, none⟩)
  | _ => True
def duR (w0 W1 W2 W3 W4 W5 : World) (l : Nat → Bool) (w : World) : Prop := (l 6 = false → w = w0.drew) ∧ (l 6 = true → l 8 = false → w = W1) ∧ (l 8 = true → l 10 = false → w = W2) ∧ (l 10 = true → l 11 = false → w = W3) ∧ (l 11 = true → l 14 = false → w = W4) ∧ (l 14 = true → w = W5)

set_option maxHeartbeats 8000000 in
theorem du_region {id : Nat} {ops : Array Oper} {Q : Exit → Act → World → Prop} {a0 : Act} {w0 : World} (y g0 : Nat) (n : ByteArray) (g1 : Nat) (IT : Value) (sa : Option Addr) (sn sc : Nat) (za : Option Addr) (zn zc : Nat) (va : Option Addr) (vn vc : Nat) (da : Option Addr) (dn dc : Nat) (W1 W2 W3 W4 W5 : World) (S : World → Prop) (hlow : lowB ops = true) (hsz : ops.size = 15)
    (o0 : OpIn ops 0 (some 21) (.move (.tmp 0)) none []) (o1 : OpIn ops 1 (some 22) (.move (.tmp 0)) none []) (o2 : OpIn ops 2 (some 23) (.nilCheck (.tmp 22)) none [1]) (o3 : OpIn ops 3 (some 24) (.fieldAddr 36 (.tmp 23) 1) none [2]) (o4 : OpIn ops 4 (some 25) (.load 34 (.tmp 24)) none [3]) (o5 : OpIn ops 5 (some 26) (.move (.tmp 1)) none []) (o6 : OpIn ops 6 (some 27) (.buildSlice 37 0 #[]) none []) (o7 : OpIn ops 7 (some 28) (.move (.tmp 2)) none []) (o8 : OpIn ops 8 (some 29) (.call { callee := .builtin .append, args := #[.tmp 27, .tmp 28], argTypes := #[37, 37] }) none [6, 7]) (o9 : OpIn ops 9 (some 30) (.build 82 #[(0, .tmp 26), (1, .tmp 29)]) none [5, 8]) (o10 : OpIn ops 10 (some 31) (.buildSlice 34 1 #[(0, .tmp 30)]) none [9]) (o11 : OpIn ops 11 (some 32) (.call { callee := .builtin .append, args := #[.tmp 25, .tmp 31], argTypes := #[34, 34] }) none [4, 10]) (o12 : OpIn ops 12 (some 33) (.nilCheck (.tmp 21)) none [0]) (o13 : OpIn ops 13 (some 34) (.fieldAddr 36 (.tmp 33) 1) none [12]) (o14 : OpIn ops 14 none (.store 34 (.tmp 34) (.tmp 32)) none [11, 13])
    (ty8 : TypeId) (hty8 : ∀ o, ops[8]? = some o → o.type = ty8)
    (ty11 : TypeId) (hty11 : ∀ o, ops[11]? = some o → o.type = ty11)
    (hS0 : S (w0.drew)) (hS1 : S (W1)) (hS2 : S (W2)) (hS3 : S (W3)) (hS4 : S (W4))
    (x3 : ∀ w, (Instr.fieldAt 36 (.pointer (some ⟨y, 0, none⟩)) 1).run Try.prog w = .ok (.pointer (some ⟨y, 1, none⟩)) w)
    (x4 : ∀ w, S w → (Instr.loadAt 34 (.pointer (some ⟨y, 1, none⟩))).run Try.prog w = .ok (.slice sa sn sc) w)
    (x6 : (Instr.buildSlice 37 0 #[]).run Try.prog (w0.drew) = .ok (.slice (some ⟨g0, 0, none⟩) 0 0) W1)
    (x8 : (Builtin.append_ #[37, 37] ty8 #[.slice (some ⟨g0, 0, none⟩) 0 0, .slice za zn zc]).run Try.prog (W1) = .ok (.slice va vn vc) W2)
    (x9 : ∀ w, (Instr.build 82 #[(0, .string n), (1, .slice va vn vc)]).run Try.prog w = .ok (IT) w)
    (x10 : (Instr.buildSlice 34 1 #[(0, IT)]).run Try.prog (W2) = .ok (.slice (some ⟨g1, 0, none⟩) 1 1) W3)
    (x11 : (Builtin.append_ #[34, 34] ty11 #[.slice sa sn sc, .slice (some ⟨g1, 0, none⟩) 1 1]).run Try.prog (W3) = .ok (.slice da dn dc) W4)
    (x13 : ∀ w, (Instr.fieldAt 36 (.pointer (some ⟨y, 0, none⟩)) 1).run Try.prog w = .ok (.pointer (some ⟨y, 1, none⟩)) w)
    (x14 : (Instr.storeAt 34 (.pointer (some ⟨y, 1, none⟩)) (.slice da dn dc)).run Try.prog (W4) = .ok () W5)
    (u0 : a0.tmps.getD 0 undef = .pointer (some ⟨y, 0, none⟩))
    (u1 : a0.tmps.getD 1 undef = .string n)
    (u2 : a0.tmps.getD 2 undef = .slice za zn zc)
    (hs : 35 ≤ a0.tmps.size)
    (fin : ∀ a, a.tmps.size = a0.tmps.size → a.defers = a0.defers → (∀ s, (∀ i, i < 15 → duD i ≠ some s) → a.tmps.getD s undef = a0.tmps.getD s undef) → (∀ i d, i < 15 → duD i = some d → duF y g0 n g1 IT sa sn sc za zn zc va vn vc da dn dc i (a.tmps.getD d undef)) → Q .normal a W5) : (Code.region id ops true).wp Try.prog Q a0 w0 := by
  refine wp_region_inv2 (by kernel_rfl) hlow (Inv 15 duD a0 (fun l _ w => duR w0 W1 W2 W3 W4 W5 l w) (fun _ i q _ => duF y g0 n g1 IT sa sn sc za zn zc va vn vc da dn dc i q)) (Inv.start ⟨fun _ => rfl, (fun h => by cases h), (fun h => by cases h), (fun h => by cases h), (fun h => by cases h), (fun h => by cases h)⟩) ?_ ?_
  · intro l i o a w ho hl hcl hdep hI
    have hi : i < 15 := by rw [← hsz]; exact (Array.getElem?_eq_some_iff.1 ho).1
    have ev : ∀ (s : Nat), a.eval (.tmp s) = a.tmps.getD s undef := fun _ => rfl
    have evc : ∀ c : Value, a.eval (.const c) = c := fun _ => rfl
    have inj : ∀ d, duD i = some d → ∀ j d', j < 15 → duD j = some d' → j ≠ i → d' ≠ d := fun d hd j d' hj hd' hne e => hne (duD_inj j hj i hi (by rw [hd', hd, e]) (by rw [hd']; simp))
    have kp : ∀ s, (∀ i, i < 15 → duD i ≠ some s) → a.tmps.getD s undef = a0.tmps.getD s undef := hI.kept
    have oth : ∀ j, j ≠ i → (l j || j == i) = l j := fun j hj => by rw [show (j == i) = false by simp [hj], Bool.or_false]
    have sam : (l i || i == i) = true := by simp
    have go : ∀ {d : Nat} {v : Value}, duD i = some d → (i ≠ 6 ∧ i ≠ 8 ∧ i ≠ 10 ∧ i ≠ 11 ∧ i ≠ 14) → duF y g0 n g1 IT sa sn sc za zn zc va vn vc da dn dc i v → Inv 15 duD a0 (fun l _ w => duR w0 W1 W2 W3 W4 W5 l w) (fun _ i q _ => duF y g0 n g1 IT sa sn sc za zn zc va vn vc da dn dc i q) (fun j => l j || j == i) (a.put (some d) v) w := by
      intro d v hD hi' hF
      refine hI.put hi hD (Nat.lt_of_lt_of_le (duD_lt i hi d hD) hs) (inj d hD) ?_ hF (fun j u _ _ _ hf => hf)
      show duR w0 W1 W2 W3 W4 W5 _ w
      unfold duR
      dsimp only
      rw [oth 6 (by omega), oth 8 (by omega), oth 10 (by omega), oth 11 (by omega), oth 14 (by omega)]
      exact hI.world
    have hSw : l 14 = false → S w := fun hc => by
      cases e0 : l 6 with
      | false => rw [hI.world.1 e0]; exact hS0
      | true =>
        cases e1 : l 8 with
        | false => rw [hI.world.2.1 e0 e1]; exact hS1
        | true =>
          cases e2 : l 10 with
          | false => rw [hI.world.2.2.1 e1 e2]; exact hS2
          | true =>
            cases e3 : l 11 with
            | false => rw [hI.world.2.2.2.1 e2 e3]; exact hS3
            | true =>
              rw [hI.world.2.2.2.2.1 e3 hc]; exact hS4
    rcases (show i = 0 ∨ i = 1 ∨ i = 2 ∨ i = 3 ∨ i = 4 ∨ i = 5 ∨ i = 6 ∨ i = 7 ∨ i = 8 ∨ i = 9 ∨ i = 10 ∨ i = 11 ∨ i = 12 ∨ i = 13 ∨ i = 14 by omega) with rfl | rfl | rfl | rfl | rfl | rfl | rfl | rfl | rfl | rfl | rfl | rfl | rfl | rfl | rfl
    · obtain ⟨o', e1, e2, e3, e4, e5⟩ := o0
      obtain rfl := Option.some.inj (ho.symm.trans e1)
      have dp := dep_of' e5 hdep
      have U0 : a.tmps.getD 0 undef = .pointer (some ⟨y, 0, none⟩) := (kp 0 (by decide)).trans u0
      exact wpOp_value (v := .pointer (some ⟨y, 0, none⟩)) (w' := w) ho e4 (by simp [execOp, e3, ev, evc, U0]) (by rw [e2]; exact go rfl (by decide) rfl)
    · obtain ⟨o', e1, e2, e3, e4, e5⟩ := o1
      obtain rfl := Option.some.inj (ho.symm.trans e1)
      have dp := dep_of' e5 hdep
      have U0 : a.tmps.getD 0 undef = .pointer (some ⟨y, 0, none⟩) := (kp 0 (by decide)).trans u0
      exact wpOp_value (v := .pointer (some ⟨y, 0, none⟩)) (w' := w) ho e4 (by simp [execOp, e3, ev, evc, U0]) (by rw [e2]; exact go rfl (by decide) rfl)
    · obtain ⟨o', e1, e2, e3, e4, e5⟩ := o2
      obtain rfl := Option.some.inj (ho.symm.trans e1)
      have dp := dep_of' e5 hdep
      have V1 : a.tmps.getD 22 undef = .pointer (some ⟨y, 0, none⟩) := hI.val 1 22 (by decide) rfl (dp 1 (by decide))
      exact wpOp_value (v := .pointer (some ⟨y, 0, none⟩)) (w' := w) ho e4 (by simp [execOp, e3, ev, evc, V1]) (by rw [e2]; exact go rfl (by decide) rfl)
    · obtain ⟨o', e1, e2, e3, e4, e5⟩ := o3
      obtain rfl := Option.some.inj (ho.symm.trans e1)
      have dp := dep_of' e5 hdep
      have V2 : a.tmps.getD 23 undef = .pointer (some ⟨y, 0, none⟩) := hI.val 2 23 (by decide) rfl (dp 2 (by decide))
      exact wpOp_value (v := .pointer (some ⟨y, 1, none⟩)) (w' := w) ho e4 (by simp [execOp, e3, ev, evc, V2, x3 w]) (by rw [e2]; exact go rfl (by decide) rfl)
    · obtain ⟨o', e1, e2, e3, e4, e5⟩ := o4
      obtain rfl := Option.some.inj (ho.symm.trans e1)
      have dp := dep_of' e5 hdep
      have V3 : a.tmps.getD 24 undef = .pointer (some ⟨y, 1, none⟩) := hI.val 3 24 (by decide) rfl (dp 3 (by decide))
      have n14 : l 14 = false := by
        cases e : l 14 with
        | false => rfl
        | true =>
          exfalso
          have y0 := hcl.dep' o14 e 11 (by decide)
          have y1 := hcl.dep' o11 y0 4 (by decide)
          rw [hl] at y1
          cases y1
      exact wpOp_value (v := .slice sa sn sc) (w' := w) ho e4 (by simp [execOp, e3, ev, evc, V3, x4 w (hSw n14)]) (by rw [e2]; exact go rfl (by decide) rfl)
    · obtain ⟨o', e1, e2, e3, e4, e5⟩ := o5
      obtain rfl := Option.some.inj (ho.symm.trans e1)
      have dp := dep_of' e5 hdep
      have U1 : a.tmps.getD 1 undef = .string n := (kp 1 (by decide)).trans u1
      exact wpOp_value (v := .string n) (w' := w) ho e4 (by simp [execOp, e3, ev, evc, U1]) (by rw [e2]; exact go rfl (by decide) rfl)
    · obtain ⟨o', e1, e2, e3, e4, e5⟩ := o6
      obtain rfl := Option.some.inj (ho.symm.trans e1)
      have dp := dep_of' e5 hdep
      have n8 : l 8 = false := by
        cases e : l 8 with
        | false => rfl
        | true =>
          exfalso
          have y0 := hcl.dep' o8 e 6 (by decide)
          rw [hl] at y0
          cases y0
      have n10 : l 10 = false := by
        cases e : l 10 with
        | false => rfl
        | true =>
          exfalso
          have y0 := hcl.dep' o10 e 9 (by decide)
          have y1 := hcl.dep' o9 y0 8 (by decide)
          have y2 := hcl.dep' o8 y1 6 (by decide)
          rw [hl] at y2
          cases y2
      have n11 : l 11 = false := by
        cases e : l 11 with
        | false => rfl
        | true =>
          exfalso
          have y0 := hcl.dep' o11 e 10 (by decide)
          have y1 := hcl.dep' o10 y0 9 (by decide)
          have y2 := hcl.dep' o9 y1 8 (by decide)
          have y3 := hcl.dep' o8 y2 6 (by decide)
          rw [hl] at y3
          cases y3
      have n14 : l 14 = false := by
        cases e : l 14 with
        | false => rfl
        | true =>
          exfalso
          have y0 := hcl.dep' o14 e 11 (by decide)
          have y1 := hcl.dep' o11 y0 10 (by decide)
          have y2 := hcl.dep' o10 y1 9 (by decide)
          have y3 := hcl.dep' o9 y2 8 (by decide)
          have y4 := hcl.dep' o8 y3 6 (by decide)
          rw [hl] at y4
          cases y4
      obtain rfl : w = w0.drew := hI.world.1 hl
      refine wpOp_value (v := .slice (some ⟨g0, 0, none⟩) 0 0) (w' := W1) ho e4 (by simp [execOp, e3, ev, evc, x6]) ?_
      rw [e2]
      refine hI.put hi rfl (Nat.lt_of_lt_of_le (by decide) hs) (inj 27 rfl) ?_ rfl (fun j u _ _ _ hf => hf)
      show duR _ _ _ _ _ _ _ _
      unfold duR
      dsimp only
      rw [sam, oth 8 (by decide), oth 10 (by decide), oth 11 (by decide), oth 14 (by decide)]
      exact ⟨(fun h => by cases h), (fun _ _ => rfl), (fun h => by rw [n8] at h; cases h), (fun h => by rw [n10] at h; cases h), (fun h => by rw [n11] at h; cases h), (fun h => by rw [n14] at h; cases h)⟩
    · obtain ⟨o', e1, e2, e3, e4, e5⟩ := o7
      obtain rfl := Option.some.inj (ho.symm.trans e1)
      have dp := dep_of' e5 hdep
      have U2 : a.tmps.getD 2 undef = .slice za zn zc := (kp 2 (by decide)).trans u2
      exact wpOp_value (v := .slice za zn zc) (w' := w) ho e4 (by simp [execOp, e3, ev, evc, U2]) (by rw [e2]; exact go rfl (by decide) rfl)
    · obtain ⟨o', e1, e2, e3, e4, e5⟩ := o8
      obtain rfl := Option.some.inj (ho.symm.trans e1)
      have dp := dep_of' e5 hdep
      have V6 : a.tmps.getD 27 undef = .slice (some ⟨g0, 0, none⟩) 0 0 := hI.val 6 27 (by decide) rfl (dp 6 (by decide))
      have V7 : a.tmps.getD 28 undef = .slice za zn zc := hI.val 7 28 (by decide) rfl (dp 7 (by decide))
      have n10 : l 10 = false := by
        cases e : l 10 with
        | false => rfl
        | true =>
          exfalso
          have y0 := hcl.dep' o10 e 9 (by decide)
          have y1 := hcl.dep' o9 y0 8 (by decide)
          rw [hl] at y1
          cases y1
      have n11 : l 11 = false := by
        cases e : l 11 with
        | false => rfl
        | true =>
          exfalso
          have y0 := hcl.dep' o11 e 10 (by decide)
          have y1 := hcl.dep' o10 y0 9 (by decide)
          have y2 := hcl.dep' o9 y1 8 (by decide)
          rw [hl] at y2
          cases y2
      have n14 : l 14 = false := by
        cases e : l 14 with
        | false => rfl
        | true =>
          exfalso
          have y0 := hcl.dep' o14 e 11 (by decide)
          have y1 := hcl.dep' o11 y0 10 (by decide)
          have y2 := hcl.dep' o10 y1 9 (by decide)
          have y3 := hcl.dep' o9 y2 8 (by decide)
          rw [hl] at y3
          cases y3
      have z6_0 := dp 6 (by decide)
      have d6 : l 6 = true := z6_0
      obtain rfl : w = W1 := hI.world.2.1 d6 hl
      refine wpOp_value (v := .slice va vn vc) (w' := W2) ho e4 (by simp only [execOp, e3, resolve, invoke, builtin, Sem.run_bind, Sem.run_pure, Result.andThen_ok, List.map_toArray, List.map_cons, List.map_nil, ev, V6, V7, hty8 _ ho, x8]) ?_
      rw [e2]
      refine hI.put hi rfl (Nat.lt_of_lt_of_le (by decide) hs) (inj 29 rfl) ?_ rfl (fun j u _ _ _ hf => hf)
      show duR _ _ _ _ _ _ _ _
      unfold duR
      dsimp only
      rw [sam, oth 6 (by decide), oth 10 (by decide), oth 11 (by decide), oth 14 (by decide)]
      exact ⟨(fun h => by rw [d6] at h; cases h), (fun _ h => by cases h), (fun _ _ => rfl), (fun h => by rw [n10] at h; cases h), (fun h => by rw [n11] at h; cases h), (fun h => by rw [n14] at h; cases h)⟩
    · obtain ⟨o', e1, e2, e3, e4, e5⟩ := o9
      obtain rfl := Option.some.inj (ho.symm.trans e1)
      have dp := dep_of' e5 hdep
      have V5 : a.tmps.getD 26 undef = .string n := hI.val 5 26 (by decide) rfl (dp 5 (by decide))
      have V8 : a.tmps.getD 29 undef = .slice va vn vc := hI.val 8 29 (by decide) rfl (dp 8 (by decide))
      exact wpOp_value (v := IT) (w' := w) ho e4 (by simp [execOp, e3, ev, evc, V5, V8, x9 w]) (by rw [e2]; exact go rfl (by decide) rfl)
    · obtain ⟨o', e1, e2, e3, e4, e5⟩ := o10
      obtain rfl := Option.some.inj (ho.symm.trans e1)
      have dp := dep_of' e5 hdep
      have V9 : a.tmps.getD 30 undef = IT := hI.val 9 30 (by decide) rfl (dp 9 (by decide))
      have n11 : l 11 = false := by
        cases e : l 11 with
        | false => rfl
        | true =>
          exfalso
          have y0 := hcl.dep' o11 e 10 (by decide)
          rw [hl] at y0
          cases y0
      have n14 : l 14 = false := by
        cases e : l 14 with
        | false => rfl
        | true =>
          exfalso
          have y0 := hcl.dep' o14 e 11 (by decide)
          have y1 := hcl.dep' o11 y0 10 (by decide)
          rw [hl] at y1
          cases y1
      have z6_0 := dp 9 (by decide)
      have z6_1 := hcl.dep' o9 z6_0 8 (by decide)
      have z6_2 := hcl.dep' o8 z6_1 6 (by decide)
      have d6 : l 6 = true := z6_2
      have z8_0 := dp 9 (by decide)
      have z8_1 := hcl.dep' o9 z8_0 8 (by decide)
      have d8 : l 8 = true := z8_1
      obtain rfl : w = W2 := hI.world.2.2.1 d8 hl
      refine wpOp_value (v := .slice (some ⟨g1, 0, none⟩) 1 1) (w' := W3) ho e4 (by simp [execOp, e3, ev, evc, V9, x10]) ?_
      rw [e2]
      refine hI.put hi rfl (Nat.lt_of_lt_of_le (by decide) hs) (inj 31 rfl) ?_ rfl (fun j u _ _ _ hf => hf)
      show duR _ _ _ _ _ _ _ _
      unfold duR
      dsimp only
      rw [sam, oth 6 (by decide), oth 8 (by decide), oth 11 (by decide), oth 14 (by decide)]
      exact ⟨(fun h => by rw [d6] at h; cases h), (fun _ h => by rw [d8] at h; cases h), (fun _ h => by cases h), (fun _ _ => rfl), (fun h => by rw [n11] at h; cases h), (fun h => by rw [n14] at h; cases h)⟩
    · obtain ⟨o', e1, e2, e3, e4, e5⟩ := o11
      obtain rfl := Option.some.inj (ho.symm.trans e1)
      have dp := dep_of' e5 hdep
      have V4 : a.tmps.getD 25 undef = .slice sa sn sc := hI.val 4 25 (by decide) rfl (dp 4 (by decide))
      have V10 : a.tmps.getD 31 undef = .slice (some ⟨g1, 0, none⟩) 1 1 := hI.val 10 31 (by decide) rfl (dp 10 (by decide))
      have n14 : l 14 = false := by
        cases e : l 14 with
        | false => rfl
        | true =>
          exfalso
          have y0 := hcl.dep' o14 e 11 (by decide)
          rw [hl] at y0
          cases y0
      have z6_0 := dp 10 (by decide)
      have z6_1 := hcl.dep' o10 z6_0 9 (by decide)
      have z6_2 := hcl.dep' o9 z6_1 8 (by decide)
      have z6_3 := hcl.dep' o8 z6_2 6 (by decide)
      have d6 : l 6 = true := z6_3
      have z8_0 := dp 10 (by decide)
      have z8_1 := hcl.dep' o10 z8_0 9 (by decide)
      have z8_2 := hcl.dep' o9 z8_1 8 (by decide)
      have d8 : l 8 = true := z8_2
      have z10_0 := dp 10 (by decide)
      have d10 : l 10 = true := z10_0
      obtain rfl : w = W3 := hI.world.2.2.2.1 d10 hl
      refine wpOp_value (v := .slice da dn dc) (w' := W4) ho e4 (by simp only [execOp, e3, resolve, invoke, builtin, Sem.run_bind, Sem.run_pure, Result.andThen_ok, List.map_toArray, List.map_cons, List.map_nil, ev, V4, V10, hty11 _ ho, x11]) ?_
      rw [e2]
      refine hI.put hi rfl (Nat.lt_of_lt_of_le (by decide) hs) (inj 32 rfl) ?_ rfl (fun j u _ _ _ hf => hf)
      show duR _ _ _ _ _ _ _ _
      unfold duR
      dsimp only
      rw [sam, oth 6 (by decide), oth 8 (by decide), oth 10 (by decide), oth 14 (by decide)]
      exact ⟨(fun h => by rw [d6] at h; cases h), (fun _ h => by rw [d8] at h; cases h), (fun _ h => by rw [d10] at h; cases h), (fun _ h => by cases h), (fun _ _ => rfl), (fun h => by rw [n14] at h; cases h)⟩
    · obtain ⟨o', e1, e2, e3, e4, e5⟩ := o12
      obtain rfl := Option.some.inj (ho.symm.trans e1)
      have dp := dep_of' e5 hdep
      have V0 : a.tmps.getD 21 undef = .pointer (some ⟨y, 0, none⟩) := hI.val 0 21 (by decide) rfl (dp 0 (by decide))
      exact wpOp_value (v := .pointer (some ⟨y, 0, none⟩)) (w' := w) ho e4 (by simp [execOp, e3, ev, evc, V0]) (by rw [e2]; exact go rfl (by decide) rfl)
    · obtain ⟨o', e1, e2, e3, e4, e5⟩ := o13
      obtain rfl := Option.some.inj (ho.symm.trans e1)
      have dp := dep_of' e5 hdep
      have V12 : a.tmps.getD 33 undef = .pointer (some ⟨y, 0, none⟩) := hI.val 12 33 (by decide) rfl (dp 12 (by decide))
      exact wpOp_value (v := .pointer (some ⟨y, 1, none⟩)) (w' := w) ho e4 (by simp [execOp, e3, ev, evc, V12, x13 w]) (by rw [e2]; exact go rfl (by decide) rfl)
    · obtain ⟨o', e1, e2, e3, e4, e5⟩ := o14
      obtain rfl := Option.some.inj (ho.symm.trans e1)
      have dp := dep_of' e5 hdep
      have V11 : a.tmps.getD 32 undef = .slice da dn dc := hI.val 11 32 (by decide) rfl (dp 11 (by decide))
      have V13 : a.tmps.getD 34 undef = .pointer (some ⟨y, 1, none⟩) := hI.val 13 34 (by decide) rfl (dp 13 (by decide))
      have z6_0 := dp 11 (by decide)
      have z6_1 := hcl.dep' o11 z6_0 10 (by decide)
      have z6_2 := hcl.dep' o10 z6_1 9 (by decide)
      have z6_3 := hcl.dep' o9 z6_2 8 (by decide)
      have z6_4 := hcl.dep' o8 z6_3 6 (by decide)
      have d6 : l 6 = true := z6_4
      have z8_0 := dp 11 (by decide)
      have z8_1 := hcl.dep' o11 z8_0 10 (by decide)
      have z8_2 := hcl.dep' o10 z8_1 9 (by decide)
      have z8_3 := hcl.dep' o9 z8_2 8 (by decide)
      have d8 : l 8 = true := z8_3
      have z10_0 := dp 11 (by decide)
      have z10_1 := hcl.dep' o11 z10_0 10 (by decide)
      have d10 : l 10 = true := z10_1
      have z11_0 := dp 11 (by decide)
      have d11 : l 11 = true := z11_0
      obtain rfl : w = W4 := hI.world.2.2.2.2.1 d11 hl
      refine wpOp_skip (w' := W5) ho e4 (by simp [execOp, e3, ev, evc, V11, V13, x14]) ?_
      rw [e2]
      refine hI.none_ rfl ?_ (fun j u _ _ _ hf => hf)
      show duR _ _ _ _ _ _ _ _
      unfold duR
      dsimp only
      rw [sam, oth 6 (by decide), oth 8 (by decide), oth 10 (by decide), oth 11 (by decide)]
      exact ⟨(fun h => by rw [d6] at h; cases h), (fun _ h => by rw [d8] at h; cases h), (fun _ h => by rw [d10] at h; cases h), (fun _ h => by rw [d11] at h; cases h), (fun _ h => by cases h), (fun _ => rfl)⟩
  · intro l a w hall hI
    have all : ∀ j, j < 15 → l j = true := fun j hj => hall j (by rw [hsz]; exact hj)
    obtain rfl := hI.world.2.2.2.2.2 (all 14 (by decide))
    exact fin a hI.size hI.defers hI.kept (fun i d hi hD => hI.val i d hi hD (all i hi))

def dnD (i : Nat) : Option Nat := match i with | 0 => some 69 | 1 => some 70 | 2 => some 71 | 3 => some 72 | 4 => some 73 | 5 => some 74 | 6 => some 75 | 7 => some 76 | 8 => some 77 | 9 => some 78 | _ => none
theorem dnD_inj : ∀ i, i < 11 → ∀ j, j < 11 → dnD i = dnD j → dnD i ≠ none → i = j := by decide
theorem dnD_lt : ∀ i, i < 11 → ∀ d, dnD i = some d → d < 79 := by
  intro i hi d h
  have : ∀ i, i < 11 → (dnD i).all (fun d => decide (d < 79)) = true := by decide
  have := this i hi
  rw [h] at this
  simpa using this
def dnF (y b g1 : Nat) (IT : Value) (sa : Option Addr) (sn sc : Nat) (da : Option Addr) (dn dc : Nat) (i : Nat) (q : Value) : Prop := match i with
  | 0 => q = .pointer (some ⟨y, 0, none⟩)
  | 1 => q = .pointer (some ⟨y, 0, none⟩)
  | 2 => q = .pointer (some ⟨y, 0, none⟩)
  | 3 => q = .pointer (some ⟨y, 1, none⟩)
  | 4 => q = .slice sa sn sc
  | 5 => q = IT
  | 6 => q = .slice (some ⟨g1, 0, none⟩) 1 1
  | 7 => q = .slice da dn dc
  | 8 => q = .pointer (some ⟨y, 0, none⟩)
  | 9 => q = .pointer (some ⟨y, 1, none⟩)
  | _ => True
def dnR (w0 W1 W2 W3 : World) (l : Nat → Bool) (w : World) : Prop := (l 6 = false → w = w0.drew) ∧ (l 6 = true → l 7 = false → w = W1) ∧ (l 7 = true → l 10 = false → w = W2) ∧ (l 10 = true → w = W3)

set_option maxHeartbeats 8000000 in
theorem dn_region {id : Nat} {ops : Array Oper} {Q : Exit → Act → World → Prop} {a0 : Act} {w0 : World} (y b g1 : Nat) (IT : Value) (sa : Option Addr) (sn sc : Nat) (da : Option Addr) (dn dc : Nat) (W1 W2 W3 : World) (S : World → Prop) (hlow : lowB ops = true) (hsz : ops.size = 11)
    (o0 : OpIn ops 0 (some 69) (.move (.tmp 0)) none []) (o1 : OpIn ops 1 (some 70) (.move (.tmp 0)) none []) (o2 : OpIn ops 2 (some 71) (.nilCheck (.tmp 70)) none [1]) (o3 : OpIn ops 3 (some 72) (.fieldAddr 36 (.tmp 71) 1) none [2]) (o4 : OpIn ops 4 (some 73) (.load 34 (.tmp 72)) none [3]) (o5 : OpIn ops 5 (some 74) (.load 82 (.tmp 6)) none []) (o6 : OpIn ops 6 (some 75) (.buildSlice 34 1 #[(0, .tmp 74)]) none [5]) (o7 : OpIn ops 7 (some 76) (.call { callee := .builtin .append, args := #[.tmp 73, .tmp 75], argTypes := #[34, 34] }) none [4, 6]) (o8 : OpIn ops 8 (some 77) (.nilCheck (.tmp 69)) none [0]) (o9 : OpIn ops 9 (some 78) (.fieldAddr 36 (.tmp 77) 1) none [8]) (o10 : OpIn ops 10 none (.store 34 (.tmp 78) (.tmp 76)) none [7, 9])
    (ty7 : TypeId) (hty7 : ∀ o, ops[7]? = some o → o.type = ty7)
    (hS0 : S (w0.drew)) (hS1 : S (W1)) (hS2 : S (W2))
    (x3 : ∀ w, (Instr.fieldAt 36 (.pointer (some ⟨y, 0, none⟩)) 1).run Try.prog w = .ok (.pointer (some ⟨y, 1, none⟩)) w)
    (x4 : ∀ w, S w → (Instr.loadAt 34 (.pointer (some ⟨y, 1, none⟩))).run Try.prog w = .ok (.slice sa sn sc) w)
    (x5 : ∀ w, S w → (Instr.loadAt 82 (.pointer (some ⟨b, 0, none⟩))).run Try.prog w = .ok (IT) w)
    (x6 : (Instr.buildSlice 34 1 #[(0, IT)]).run Try.prog (w0.drew) = .ok (.slice (some ⟨g1, 0, none⟩) 1 1) W1)
    (x7 : (Builtin.append_ #[34, 34] ty7 #[.slice sa sn sc, .slice (some ⟨g1, 0, none⟩) 1 1]).run Try.prog (W1) = .ok (.slice da dn dc) W2)
    (x9 : ∀ w, (Instr.fieldAt 36 (.pointer (some ⟨y, 0, none⟩)) 1).run Try.prog w = .ok (.pointer (some ⟨y, 1, none⟩)) w)
    (x10 : (Instr.storeAt 34 (.pointer (some ⟨y, 1, none⟩)) (.slice da dn dc)).run Try.prog (W2) = .ok () W3)
    (u0 : a0.tmps.getD 0 undef = .pointer (some ⟨y, 0, none⟩))
    (u6 : a0.tmps.getD 6 undef = .pointer (some ⟨b, 0, none⟩))
    (hs : 79 ≤ a0.tmps.size)
    (fin : ∀ a, a.tmps.size = a0.tmps.size → a.defers = a0.defers → (∀ s, (∀ i, i < 11 → dnD i ≠ some s) → a.tmps.getD s undef = a0.tmps.getD s undef) → (∀ i d, i < 11 → dnD i = some d → dnF y b g1 IT sa sn sc da dn dc i (a.tmps.getD d undef)) → Q .normal a W3) : (Code.region id ops true).wp Try.prog Q a0 w0 := by
  refine wp_region_inv2 (by kernel_rfl) hlow (Inv 11 dnD a0 (fun l _ w => dnR w0 W1 W2 W3 l w) (fun _ i q _ => dnF y b g1 IT sa sn sc da dn dc i q)) (Inv.start ⟨fun _ => rfl, (fun h => by cases h), (fun h => by cases h), (fun h => by cases h)⟩) ?_ ?_
  · intro l i o a w ho hl hcl hdep hI
    have hi : i < 11 := by rw [← hsz]; exact (Array.getElem?_eq_some_iff.1 ho).1
    have ev : ∀ (s : Nat), a.eval (.tmp s) = a.tmps.getD s undef := fun _ => rfl
    have evc : ∀ c : Value, a.eval (.const c) = c := fun _ => rfl
    have inj : ∀ d, dnD i = some d → ∀ j d', j < 11 → dnD j = some d' → j ≠ i → d' ≠ d := fun d hd j d' hj hd' hne e => hne (dnD_inj j hj i hi (by rw [hd', hd, e]) (by rw [hd']; simp))
    have kp : ∀ s, (∀ i, i < 11 → dnD i ≠ some s) → a.tmps.getD s undef = a0.tmps.getD s undef := hI.kept
    have oth : ∀ j, j ≠ i → (l j || j == i) = l j := fun j hj => by rw [show (j == i) = false by simp [hj], Bool.or_false]
    have sam : (l i || i == i) = true := by simp
    have go : ∀ {d : Nat} {v : Value}, dnD i = some d → (i ≠ 6 ∧ i ≠ 7 ∧ i ≠ 10) → dnF y b g1 IT sa sn sc da dn dc i v → Inv 11 dnD a0 (fun l _ w => dnR w0 W1 W2 W3 l w) (fun _ i q _ => dnF y b g1 IT sa sn sc da dn dc i q) (fun j => l j || j == i) (a.put (some d) v) w := by
      intro d v hD hi' hF
      refine hI.put hi hD (Nat.lt_of_lt_of_le (dnD_lt i hi d hD) hs) (inj d hD) ?_ hF (fun j u _ _ _ hf => hf)
      show dnR w0 W1 W2 W3 _ w
      unfold dnR
      dsimp only
      rw [oth 6 (by omega), oth 7 (by omega), oth 10 (by omega)]
      exact hI.world
    have hSw : l 10 = false → S w := fun hc => by
      cases e0 : l 6 with
      | false => rw [hI.world.1 e0]; exact hS0
      | true =>
        cases e1 : l 7 with
        | false => rw [hI.world.2.1 e0 e1]; exact hS1
        | true =>
          rw [hI.world.2.2.1 e1 hc]; exact hS2
    rcases (show i = 0 ∨ i = 1 ∨ i = 2 ∨ i = 3 ∨ i = 4 ∨ i = 5 ∨ i = 6 ∨ i = 7 ∨ i = 8 ∨ i = 9 ∨ i = 10 by omega) with rfl | rfl | rfl | rfl | rfl | rfl | rfl | rfl | rfl | rfl | rfl
    · obtain ⟨o', e1, e2, e3, e4, e5⟩ := o0
      obtain rfl := Option.some.inj (ho.symm.trans e1)
      have dp := dep_of' e5 hdep
      have U0 : a.tmps.getD 0 undef = .pointer (some ⟨y, 0, none⟩) := (kp 0 (by decide)).trans u0
      exact wpOp_value (v := .pointer (some ⟨y, 0, none⟩)) (w' := w) ho e4 (by simp [execOp, e3, ev, evc, U0]) (by rw [e2]; exact go rfl (by decide) rfl)
    · obtain ⟨o', e1, e2, e3, e4, e5⟩ := o1
      obtain rfl := Option.some.inj (ho.symm.trans e1)
      have dp := dep_of' e5 hdep
      have U0 : a.tmps.getD 0 undef = .pointer (some ⟨y, 0, none⟩) := (kp 0 (by decide)).trans u0
      exact wpOp_value (v := .pointer (some ⟨y, 0, none⟩)) (w' := w) ho e4 (by simp [execOp, e3, ev, evc, U0]) (by rw [e2]; exact go rfl (by decide) rfl)
    · obtain ⟨o', e1, e2, e3, e4, e5⟩ := o2
      obtain rfl := Option.some.inj (ho.symm.trans e1)
      have dp := dep_of' e5 hdep
      have V1 : a.tmps.getD 70 undef = .pointer (some ⟨y, 0, none⟩) := hI.val 1 70 (by decide) rfl (dp 1 (by decide))
      exact wpOp_value (v := .pointer (some ⟨y, 0, none⟩)) (w' := w) ho e4 (by simp [execOp, e3, ev, evc, V1]) (by rw [e2]; exact go rfl (by decide) rfl)
    · obtain ⟨o', e1, e2, e3, e4, e5⟩ := o3
      obtain rfl := Option.some.inj (ho.symm.trans e1)
      have dp := dep_of' e5 hdep
      have V2 : a.tmps.getD 71 undef = .pointer (some ⟨y, 0, none⟩) := hI.val 2 71 (by decide) rfl (dp 2 (by decide))
      exact wpOp_value (v := .pointer (some ⟨y, 1, none⟩)) (w' := w) ho e4 (by simp [execOp, e3, ev, evc, V2, x3 w]) (by rw [e2]; exact go rfl (by decide) rfl)
    · obtain ⟨o', e1, e2, e3, e4, e5⟩ := o4
      obtain rfl := Option.some.inj (ho.symm.trans e1)
      have dp := dep_of' e5 hdep
      have V3 : a.tmps.getD 72 undef = .pointer (some ⟨y, 1, none⟩) := hI.val 3 72 (by decide) rfl (dp 3 (by decide))
      have n10 : l 10 = false := by
        cases e : l 10 with
        | false => rfl
        | true =>
          exfalso
          have y0 := hcl.dep' o10 e 7 (by decide)
          have y1 := hcl.dep' o7 y0 4 (by decide)
          rw [hl] at y1
          cases y1
      exact wpOp_value (v := .slice sa sn sc) (w' := w) ho e4 (by simp [execOp, e3, ev, evc, V3, x4 w (hSw n10)]) (by rw [e2]; exact go rfl (by decide) rfl)
    · obtain ⟨o', e1, e2, e3, e4, e5⟩ := o5
      obtain rfl := Option.some.inj (ho.symm.trans e1)
      have dp := dep_of' e5 hdep
      have U6 : a.tmps.getD 6 undef = .pointer (some ⟨b, 0, none⟩) := (kp 6 (by decide)).trans u6
      have n10 : l 10 = false := by
        cases e : l 10 with
        | false => rfl
        | true =>
          exfalso
          have y0 := hcl.dep' o10 e 7 (by decide)
          have y1 := hcl.dep' o7 y0 6 (by decide)
          have y2 := hcl.dep' o6 y1 5 (by decide)
          rw [hl] at y2
          cases y2
      exact wpOp_value (v := IT) (w' := w) ho e4 (by simp [execOp, e3, ev, evc, U6, x5 w (hSw n10)]) (by rw [e2]; exact go rfl (by decide) rfl)
    · obtain ⟨o', e1, e2, e3, e4, e5⟩ := o6
      obtain rfl := Option.some.inj (ho.symm.trans e1)
      have dp := dep_of' e5 hdep
      have V5 : a.tmps.getD 74 undef = IT := hI.val 5 74 (by decide) rfl (dp 5 (by decide))
      have n7 : l 7 = false := by
        cases e : l 7 with
        | false => rfl
        | true =>
          exfalso
          have y0 := hcl.dep' o7 e 6 (by decide)
          rw [hl] at y0
          cases y0
      have n10 : l 10 = false := by
        cases e : l 10 with
        | false => rfl
        | true =>
          exfalso
          have y0 := hcl.dep' o10 e 7 (by decide)
          have y1 := hcl.dep' o7 y0 6 (by decide)
          rw [hl] at y1
          cases y1
      obtain rfl : w = w0.drew := hI.world.1 hl
      refine wpOp_value (v := .slice (some ⟨g1, 0, none⟩) 1 1) (w' := W1) ho e4 (by simp [execOp, e3, ev, evc, V5, x6]) ?_
      rw [e2]
      refine hI.put hi rfl (Nat.lt_of_lt_of_le (by decide) hs) (inj 75 rfl) ?_ rfl (fun j u _ _ _ hf => hf)
      show dnR _ _ _ _ _ _
      unfold dnR
      dsimp only
      rw [sam, oth 7 (by decide), oth 10 (by decide)]
      exact ⟨(fun h => by cases h), (fun _ _ => rfl), (fun h => by rw [n7] at h; cases h), (fun h => by rw [n10] at h; cases h)⟩
    · obtain ⟨o', e1, e2, e3, e4, e5⟩ := o7
      obtain rfl := Option.some.inj (ho.symm.trans e1)
      have dp := dep_of' e5 hdep
      have V4 : a.tmps.getD 73 undef = .slice sa sn sc := hI.val 4 73 (by decide) rfl (dp 4 (by decide))
      have V6 : a.tmps.getD 75 undef = .slice (some ⟨g1, 0, none⟩) 1 1 := hI.val 6 75 (by decide) rfl (dp 6 (by decide))
      have n10 : l 10 = false := by
        cases e : l 10 with
        | false => rfl
        | true =>
          exfalso
          have y0 := hcl.dep' o10 e 7 (by decide)
          rw [hl] at y0
          cases y0
      have z6_0 := dp 6 (by decide)
      have d6 : l 6 = true := z6_0
      obtain rfl : w = W1 := hI.world.2.1 d6 hl
      refine wpOp_value (v := .slice da dn dc) (w' := W2) ho e4 (by simp only [execOp, e3, resolve, invoke, builtin, Sem.run_bind, Sem.run_pure, Result.andThen_ok, List.map_toArray, List.map_cons, List.map_nil, ev, V4, V6, hty7 _ ho, x7]) ?_
      rw [e2]
      refine hI.put hi rfl (Nat.lt_of_lt_of_le (by decide) hs) (inj 76 rfl) ?_ rfl (fun j u _ _ _ hf => hf)
      show dnR _ _ _ _ _ _
      unfold dnR
      dsimp only
      rw [sam, oth 6 (by decide), oth 10 (by decide)]
      exact ⟨(fun h => by rw [d6] at h; cases h), (fun _ h => by cases h), (fun _ _ => rfl), (fun h => by rw [n10] at h; cases h)⟩
    · obtain ⟨o', e1, e2, e3, e4, e5⟩ := o8
      obtain rfl := Option.some.inj (ho.symm.trans e1)
      have dp := dep_of' e5 hdep
      have V0 : a.tmps.getD 69 undef = .pointer (some ⟨y, 0, none⟩) := hI.val 0 69 (by decide) rfl (dp 0 (by decide))
      exact wpOp_value (v := .pointer (some ⟨y, 0, none⟩)) (w' := w) ho e4 (by simp [execOp, e3, ev, evc, V0]) (by rw [e2]; exact go rfl (by decide) rfl)
    · obtain ⟨o', e1, e2, e3, e4, e5⟩ := o9
      obtain rfl := Option.some.inj (ho.symm.trans e1)
      have dp := dep_of' e5 hdep
      have V8 : a.tmps.getD 77 undef = .pointer (some ⟨y, 0, none⟩) := hI.val 8 77 (by decide) rfl (dp 8 (by decide))
      exact wpOp_value (v := .pointer (some ⟨y, 1, none⟩)) (w' := w) ho e4 (by simp [execOp, e3, ev, evc, V8, x9 w]) (by rw [e2]; exact go rfl (by decide) rfl)
    · obtain ⟨o', e1, e2, e3, e4, e5⟩ := o10
      obtain rfl := Option.some.inj (ho.symm.trans e1)
      have dp := dep_of' e5 hdep
      have V7 : a.tmps.getD 76 undef = .slice da dn dc := hI.val 7 76 (by decide) rfl (dp 7 (by decide))
      have V9 : a.tmps.getD 78 undef = .pointer (some ⟨y, 1, none⟩) := hI.val 9 78 (by decide) rfl (dp 9 (by decide))
      have z6_0 := dp 7 (by decide)
      have z6_1 := hcl.dep' o7 z6_0 6 (by decide)
      have d6 : l 6 = true := z6_1
      have z7_0 := dp 7 (by decide)
      have d7 : l 7 = true := z7_0
      obtain rfl : w = W2 := hI.world.2.2.1 d7 hl
      refine wpOp_skip (w' := W3) ho e4 (by simp [execOp, e3, ev, evc, V7, V9, x10]) ?_
      rw [e2]
      refine hI.none_ rfl ?_ (fun j u _ _ _ hf => hf)
      show dnR _ _ _ _ _ _
      unfold dnR
      dsimp only
      rw [sam, oth 6 (by decide), oth 7 (by decide)]
      exact ⟨(fun h => by rw [d6] at h; cases h), (fun _ h => by rw [d7] at h; cases h), (fun _ h => by cases h), (fun _ => rfl)⟩
  · intro l a w hall hI
    have all : ∀ j, j < 11 → l j = true := fun j hj => hall j (by rw [hsz]; exact hj)
    obtain rfl := hI.world.2.2.2 (all 10 (by decide))
    exact fin a hI.size hI.defers hI.kept (fun i d hi hD => hI.val i d hi hD (all i hi))
end

/- The document's shelf: what is where. -/
section
open Go.ChangeShapes Go.WideShapes Go.ChangeAt Go.RowKit
set_option linter.unusedVariables false
set_option linter.unusedSimpArgs false

def itsD (D : List DI) : List It := D.map DI.it
theorem at_lt {D : List DI} {k : Nat} (h : k < D.length) : ∃ x, D[k]? = some x := ⟨_, List.getElem?_eq_getElem h⟩
theorem look_at {D : List DI} {n : ByteArray} {it : It} (h : look (itsD D) n = some it) : ∃ (K : Nat) (x : DI), D[K]? = some x ∧ x.it = it ∧ x.it.nm = n ∧ K < D.length ∧ ∀ (j : Nat) (u : DI), j < K → D[j]? = some u → u.it.nm ≠ n := by
  unfold itsD look at h
  induction D with
  | nil => cases h
  | cons v r ih =>
    rw [List.map_cons] at h
    by_cases e : v.it.nm = n
    · rw [List.find?_cons_of_pos (by simpa using e)] at h
      exact ⟨0, v, rfl, Option.some.inj h, e, by simp, fun j u hj => by omega⟩
    · rw [List.find?_cons_of_neg (by simpa using e)] at h
      obtain ⟨K, x, h1, h2, h3, h4, h5⟩ := ih h
      refine ⟨K + 1, x, by simpa using h1, h2, h3, by simp; omega, fun j u hj hu => ?_⟩
      cases j with
      | zero =>
        obtain rfl : v = u := by simpa using hu
        exact e
      | succ j => exact h5 j u (by omega) (by simpa using hu)
theorem look_not {D : List DI} {n : ByteArray} (h : look (itsD D) n = none) : ∀ (j : Nat) (u : DI), D[j]? = some u → u.it.nm ≠ n := fun j u hu =>
  look_none h _ (List.mem_map.2 ⟨u, List.mem_of_getElem? hu, rfl⟩)

theorem at_no {B : Nat} {w : World} {y p : Nat} {a : Option Addr} {c : Nat} {D : List DI} (h : DsAt B w y p a c D) (n : ByteArray) (hn : ∀ (j : Nat) (u : DI), D[j]? = some u → u.it.nm ≠ n) (hl : D.length ≤ 1000000) :
    Calls Try.prog 44 #[.pointer (some ⟨y, 0, none⟩), .string n] w fun e w' => e = .returned (.int .i64 (-1)) ∧ w' = w := by
  have c1 := h.c1
  have HD := hidden_ h
  have HN := hidden_ hn
  clear h hn
  go_enter Try.func44, Try.ntmps44
  go_wp2
  go_loopw [5] (fun i wr => ∃ k : Nat, k ≤ D.length ∧ i = .int .i64 k ∧ wr = w) (fun i _ => D.length - (intOf i).toNat)
  case atStart => exact ⟨0, Nat.zero_le _, rfl, rfl⟩
  case round =>
    obtain ⟨k, hk, rfl, rfl⟩ := hrel
    by_cases hlt : k < D.length
    · obtain ⟨u, hu⟩ := at_lt hlt
      obtain ⟨g, rfl, _, r1, r2, _, cc0, _⟩ := HD.out.some_ hu
      obtain ⟨t, et⟩ : ∃ t, u.it.nm = t := ⟨_, rfl⟩
      have q := text_other (a := t) (b := n) (fun e => HN.out k u hu (et.trans e))
      have q' := text_other (a := n) (b := t) (fun e => HN.out k u hu (et.trans e.symm))
      rw [et] at cc0
      clear et hu
      go_wp2
      go_roundw
      case rel => exact ⟨k + 1, by omega, by go_num, trivial⟩
      case measure => simp [intOf]; omega
    · have e : k = D.length := by omega
      subst e
      go_wp2
      go_ret
      exact ⟨rfl, rfl⟩
theorem at_yes {B : Nat} {w : World} {y p : Nat} {a : Option Addr} {c : Nat} {D : List DI} (h : DsAt B w y p a c D) (n : ByteArray) (K : Nat) (x : DI) (hK : D[K]? = some x) (hx : x.it.nm = n) (hn : ∀ (j : Nat) (u : DI), j < K → D[j]? = some u → u.it.nm ≠ n) (hl : D.length ≤ 1000000) :
    Calls Try.prog 44 #[.pointer (some ⟨y, 0, none⟩), .string n] w fun e w' => e = .returned (.int .i64 (K : Int)) ∧ w' = w := by
  have c1 := h.c1
  have HD := hidden_ h
  have HN := hidden_ hn
  have hKl := (List.getElem?_eq_some_iff.1 hK).1
  clear h hn
  go_enter Try.func44, Try.ntmps44
  go_wp2
  go_loopw [5] (fun i wr => ∃ k : Nat, k ≤ K ∧ i = .int .i64 k ∧ wr = w) (fun i _ => D.length - (intOf i).toNat)
  case atStart => exact ⟨0, Nat.zero_le _, rfl, rfl⟩
  case round =>
    obtain ⟨k, hk, rfl, rfl⟩ := hrel
    by_cases hlt : k < K
    · obtain ⟨u, hu⟩ := at_lt (show k < D.length by omega)
      obtain ⟨g, rfl, _, r1, r2, _, cc0, _⟩ := HD.out.some_ hu
      obtain ⟨t, et⟩ : ∃ t, u.it.nm = t := ⟨_, rfl⟩
      have q := text_other (a := t) (b := n) (fun e => HN.out k u hlt hu (et.trans e))
      have q' := text_other (a := n) (b := t) (fun e => HN.out k u hlt hu (et.trans e.symm))
      have hkd : k < D.length := by omega
      rw [et] at cc0
      clear et hu
      go_wp2
      go_roundw
      case rel => exact ⟨k + 1, by omega, by go_num, trivial⟩
      case measure => simp [intOf]; omega
    · have e : k = K := by omega
      subst e
      obtain ⟨g, rfl, _, r1, r2, _, cc0, _⟩ := HD.out.some_ hK
      rw [hx] at cc0
      clear hK
      go_wp2
      go_ret
      exact ⟨rfl, rfl⟩

theorem refPins_call {B : Nat} {w : World} {y p : Nat} {a : Option Addr} {c : Nat} {D : List DI} (h : DsAt B w y p a c D) (n : ByteArray) (hl : D.length ≤ 1000000) :
    Calls Try.prog 15 #[.pointer (some ⟨y, 0, none⟩), .string n] w fun e w' => e = .returned (.int .i64 (pinsZ (itsD D) n)) ∧ w' = w := by
  unfold pinsZ
  have c1 := h.c1
  cases hi : look (itsD D) n with
  | none =>
    have k := at_no h n (look_not hi) hl
    clear h hi
    go_enter Try.func15, Try.ntmps15
    go_wp2_with (first | (go_at_call 44; refine k.mono ?_; rintro e w' ⟨rfl, h1⟩; obtain rfl := h1.symm))
    go_ret
    exact ⟨rfl, rfl⟩
  | some it =>
    obtain ⟨K, x, hK, rfl, hx, hKl, hne⟩ := look_at hi
    have k := at_yes h n K x hK hx hne hl
    obtain ⟨g, rfl, _, r1, r2, _, cc0, cc1, cc2, cc3, cc4⟩ := h.some_ hK
    simp only
    obtain ⟨pz, ep⟩ : ∃ pz, x.it.pins = pz := ⟨_, rfl⟩
    rw [ep] at cc4 ⊢
    clear h hi hK hx hne ep
    go_enter Try.func15, Try.ntmps15
    go_wp2_with (first | (go_at_call 44; refine k.mono ?_; rintro e w' ⟨rfl, h1⟩; obtain rfl := h1.symm))
    go_ret
    exact ⟨rfl, rfl⟩
end

/- The document's shelf: how much is at hand. -/
section
open Go.ChangeShapes Go.WideShapes Go.ChangeAt Go.RowKit
set_option linter.unusedVariables false
set_option linter.unusedSimpArgs false

theorem refHand_call {B : Nat} {w : World} {y p g : Nat} {a : Option Addr} {c : Nat} {D : List DI} {s : Pl} {r : Nat → Nat} (h : DsAt B w y p a c D) (hr : RefAt B w p g s r) (hG : Good 1 s) :
    Calls Try.prog 49 #[.pointer (some ⟨y, 0, none⟩)] w fun e w' => e = .returned (.int .i64 (hand s)) ∧ ∃ m, w' = w.drewN m := by
  have c0 := h.c0
  have t1 := hr.t1
  have k50 := fun m => refFree_call (hr.drewN m) hG.n1
  have hn := hG.n1
  have hf := freeTo_le s.pg s.n
  have ha0 := hG.a0
  have ha1 := hG.a1
  have e : hand s = (freeTo s.pg s.n : Int) - s.aside := rfl
  rw [e]
  obtain ⟨F, eF⟩ : ∃ F, freeTo s.pg s.n = F := ⟨_, rfl⟩
  obtain ⟨S, eS⟩ : ∃ S, s.aside = S := ⟨_, rfl⟩
  simp only [eF] at k50 hf ha1 ⊢
  rw [eS] at t1 ha0 ha1 ⊢
  clear h hr hG e eF eS
  go_enter Try.func49, Try.ntmps49
  go_wp2
  go_quiet (first | (go_at_call 50; exact Calls.quiet_of_same (k50 _)))
  go_wp2
  go_ret
  exact ⟨rfl, _, rfl⟩
end

/- The document's shelf: which are there. -/
section
open Go.ChangeShapes Go.WideShapes Go.ChangeAt Go.RowKit
set_option linter.unusedVariables false
set_option linter.unusedSimpArgs false

theorem take_at {D : List DI} {k : Nat} {u : DI} (h : D[k]? = some u) : D.take (k + 1) = D.take k ++ [u] := by
  obtain ⟨h1, h2⟩ := List.getElem?_eq_some_iff.1 h
  rw [List.take_add_one, h]
  rfl
theorem names_take {D : List DI} {k : Nat} {u : DI} (h : D[k]? = some u) : names (itsD (D.take (k + 1))) = names (itsD (D.take k)) ++ (if u.it.is = true then [u.it.nm] else []) := by
  rw [take_at h]
  unfold names res itsD
  rw [List.map_append, List.filter_append, List.map_append]
  congr 1
  simp only [List.map_cons, List.map_nil]
  by_cases e : u.it.is = true
  · rw [if_pos e, List.filter_cons_of_pos (by simpa using e)]; rfl
  · rw [if_neg e, List.filter_cons_of_neg (by simpa using e)]; rfl
theorem refResident_call {B : Nat} {w : World} {y p : Nat} {a : Option Addr} {c : Nat} {D : List DI} (h : DsAt B w y p a c D) (hl : D.length ≤ 1000) :
    Calls Try.prog 18 #[.pointer (some ⟨y, 0, none⟩)] w fun e w' => (∃ a' l' c', e = .returned (.slice a' l' c') ∧ RowT w.heap.size w' a' l' c' (names (itsD D))) ∧ Below w.heap.size w w' := by
  have c1 := h.c1
  have HD := hidden_ h
  clear h
  go_enter Try.func18, Try.ntmps18
  go_wp2
  go_loopw [3, 4] (fun v i wr => ∃ (k : Nat) (ra : Option Addr) (rl rc : Nat), k ≤ D.length ∧ i = .int .i64 k ∧ v = .slice ra rl rc ∧ rl ≤ k ∧ Hid (RowT w.heap.size wr ra rl rc (names (itsD (D.take k)))) ∧ Hid (Below w.heap.size w wr)) (fun _ i _ => D.length - (intOf i).toNat)
  case atStart => exact ⟨0, none, 0, 0, Nat.zero_le _, rfl, rfl, Nat.le_refl _, hidden_ (RowT.nil _ _), hidden_ (Below.refl _ _)⟩
  case round =>
    obtain ⟨k, ra, rl, rc, hk, rfl, rfl, hrl, HR, HB⟩ := hrel
    have h' := HD.out.below HB.out
    have c1' := h'.c1
    by_cases hlt : k < D.length
    · obtain ⟨u, hu⟩ := at_lt hlt
      obtain ⟨gg, rfl, _, r1, r2, _, cc0, _, _, cc3, _⟩ := h'.some_ hu
      have hs := names_take hu
      obtain ⟨t, et⟩ : ∃ t, u.it.nm = t := ⟨_, rfl⟩
      rw [et] at cc0 hs
      clear h'
      by_cases hi : u.it.is = true
      · rw [hi] at cc3
        rw [if_pos hi] at hs
        obtain ⟨na, nc, W, hap, hrow, ho, _⟩ := run_append_text HR.out t (by omega) HB.out.size 46
        have HR' := hidden_ (show RowT w.heap.size W na (rl + 1) nc (names (itsD (D.take (k + 1)))) from by rw [hs]; exact hrow)
        have HB' := hidden_ (HB.out.trans (ho.below HB.out.size))
        clear HR HB hrow ho hs hu et hi c1
        go_wp2_with (first
          | (at_builtin; refine wpList_append_run rfl (.tmp 22) (.tmp 31) 46 rfl 46 rfl _ _ rfl rfl _ _ hap ?_))
        go_roundw
        case rel => exact ⟨k + 1, na, rl + 1, nc, by omega, by go_num, rfl, by omega, HR', HB'⟩
        case measure => simp [intOf]; omega
      · rw [if_neg hi, List.append_nil] at hs
        rw [show u.it.is = false by simpa using hi] at cc3
        have HR' := hidden_ (show RowT w.heap.size wr ra rl rc (names (itsD (D.take (k + 1)))) from by rw [hs]; exact HR.out)
        clear HR hs hu et hi c1
        go_wp2
        go_roundw
        case rel => exact ⟨k + 1, ra, rl, rc, by omega, by go_num, rfl, by omega, HR', HB⟩
        case measure => simp [intOf]; omega
    · have e : k = D.length := by omega
      subst e
      have hrow := HR.out
      rw [List.take_length] at hrow
      clear h' c1
      go_wp2
      go_ret
      exact ⟨⟨_, _, _, rfl, hrow⟩, HB.out⟩
end

/- The document's shelf: one is let go. -/
section
open Go.ChangeShapes Go.WideShapes Go.ChangeAt Go.RowKit
set_option linter.unusedVariables false
set_option linter.unusedSimpArgs false

theorem itsD_set {D : List DI} {K : Nat} {x x' : DI} (hnd : Nd (itsD D)) (hK : D[K]? = some x) (f : It → It) (hx : x'.it = f x.it) : itsD (D.set K x') = chg f x.it.nm (itsD D) := by
  unfold itsD
  unfold itsD at hnd
  induction D generalizing K with
  | nil => cases hK
  | cons v r ih =>
    obtain ⟨h1, h2⟩ := List.pairwise_cons.1 hnd
    cases K with
    | zero =>
      obtain rfl : v = x := by simpa using hK
      rw [List.set_cons_zero, List.map_cons, List.map_cons, hx]
      have := chg_none f v.it.nm (r.map DI.it) (fun u hu c => h1 u hu c.symm)
      unfold chg at this ⊢
      rw [List.map_cons, if_pos rfl, this]
    | succ K =>
      have hK' : r[K]? = some x := by simpa using hK
      have hne : ¬ v.it.nm = x.it.nm := h1 x.it (List.mem_map.2 ⟨x, List.mem_of_getElem? hK', rfl⟩)
      rw [List.set_cons_succ, List.map_cons, List.map_cons, ih h2 hK']
      unfold chg
      rw [List.map_cons, if_neg hne]
theorem refUnpin_call {B : Nat} {w : World} {y p : Nat} {a : Option Addr} {c : Nat} {D : List DI} (h : DsAt B w y p a c D) (hnd : Nd (itsD D)) (hpn : ∀ x ∈ itsD D, x.pins ≤ 1000000) (n : ByteArray) (hl : D.length ≤ 1000000) :
    Calls Try.prog 33 #[.pointer (some ⟨y, 0, none⟩), .string n] w fun e w' => e = .returned (.int .i64 (unpE (itsD D) n)) ∧ (∃ D', DsAt B w' y p a c D' ∧ itsD D' = unpL (itsD D) n) ∧ Off B (fun t => t == 82) w w' := by
  have c1 := h.c1
  cases hi : look (itsD D) n with
  | none =>
    have e0 : unpE (itsD D) n = 25 := by unfold unpE; rw [hi]
    have e1 : unpL (itsD D) n = itsD D := by unfold unpL; rw [if_neg (by rw [e0]; decide)]
    have k := at_no h n (look_not hi) hl
    have HH := hidden_ h
    rw [e0, e1]
    clear h hi e0 e1
    go_enter Try.func33, Try.ntmps33
    go_wp2_with (first | (go_at_call 44; refine k.mono ?_; rintro e w' ⟨rfl, h1⟩; obtain rfl := h1.symm))
    go_ret
    exact ⟨rfl, ⟨D, HH.out, rfl⟩, Off.refl _ _ _⟩
  | some it =>
    obtain ⟨K, x, hK, rfl, hx, hKl, hne⟩ := look_at hi
    have k := at_yes h n K x hK hx hne hl
    have hp1 := hpn x.it (List.mem_map.2 ⟨x, List.mem_of_getElem? hK, rfl⟩)
    have hs := h.some_ hK
    by_cases hp : x.it.pins = 0
    · have e0 : unpE (itsD D) n = 27 := by unfold unpE; rw [hi]; simp only; rw [if_pos hp]
      have e1 : unpL (itsD D) n = itsD D := by unfold unpL; rw [if_neg (by rw [e0]; decide)]
      obtain ⟨gg, rfl, _, r1, r2, _, cc0, cc1, cc2, cc3, cc4⟩ := hs
      rw [hp, show ((0 : Nat) : Int) = 0 from rfl] at cc4
      have HH := hidden_ h
      rw [e0, e1]
      clear h hi e0 e1 hne hK hx hp
      go_enter Try.func33, Try.ntmps33
      go_wp2_with (first | (go_at_call 44; refine k.mono ?_; rintro e w' ⟨rfl, h1⟩; obtain rfl := h1.symm))
      go_ret
      exact ⟨rfl, ⟨D, HH.out, rfl⟩, Off.refl _ _ _⟩
    · have e0 : unpE (itsD D) n = 0 := by unfold unpE; rw [hi]; simp only; rw [if_neg hp]
      have e1 : unpL (itsD D) n = chg less n (itsD D) := by unfold unpL; rw [if_pos e0]
      obtain ⟨gg, ha, _, r1, r2, _, cc0, cc1, cc2, cc3, cc4⟩ := hs
      obtain ⟨st, fz, off⟩ := h.set (x' := { x with it := less x.it }) ha hK (show 4 < 5 by decide) (.int .i64 ((x.it.pins - 1 : Nat) : Int)) rfl (h.its x (List.mem_of_getElem? hK))
      have e2 := itsD_set hnd hK less (x' := { x with it := less x.it }) rfl
      rw [hx] at e2
      have HH := hidden_ (And.intro st (And.intro off (e2.trans e1.symm)))
      obtain ⟨pz, ep⟩ : ∃ pz : Int, (x.it.pins : Int) = pz := ⟨_, rfl⟩
      obtain ⟨pq, eq⟩ : ∃ pq : Int, ((x.it.pins - 1 : Nat) : Int) = pq := ⟨_, rfl⟩
      rw [ep] at cc4
      rw [eq] at HH
      have hz : ¬ pz = 0 := by omega
      have hz' : (pz == 0) = false := by simp [hz]
      have hpq : pz - 1 = pq := by omega
      have hb : pz ≤ 1000000 := by omega
      have hb0 : 0 < pz := by omega
      subst ha
      rw [e0]
      clear h hi e0 e1 e2 hne hK hx hp ep eq st off
      go_enter Try.func33, Try.ntmps33
      go_wp2_with (first | (go_at_call 44; refine k.mono ?_; rintro e w' ⟨rfl, h1⟩; obtain rfl := h1.symm))
      go_ret
      exact ⟨rfl, ⟨_, HH.out.1, HH.out.2.2⟩, HH.out.2.1⟩
end

/- The document's shelf: one is read. -/
section
open Go.ChangeShapes Go.WideShapes Go.ChangeAt Go.RowKit
set_option linter.unusedVariables false
set_option linter.unusedSimpArgs false

theorem refRead_call {B : Nat} {w : World} {y p g cap : Nat} {a : Option Addr} {c : Nat} {D : List DI} {s : Pl} {r : Nat → Nat} (h : DsAt B w y p a c D) (hr : RefAt B w p g s r) (hok : ShOk cap s (itsD D)) (hc : cap ≤ 1000) (n : ByteArray) :
    Calls Try.prog 12 #[.pointer (some ⟨y, 0, none⟩), .string n] w fun e w' => ∃ a' l' c', e = .returned (.tuple #[.slice a' l' c', .int .i64 (readE s (itsD D) n)]) ∧ RowB w.heap.size w' a' l' c' (readV s (itsD D) n) ∧ Below w.heap.size w w' := by
  have hl : D.length ≤ 1000 := by have := hok.few; unfold itsD at this; rw [List.length_map] at this; omega
  have c0 := h.c0
  have c1 := h.c1
  unfold readE readV
  cases hi : look (itsD D) n with
  | none =>
    have k := at_no h n (look_not hi) (by omega)
    clear h hi hr hok
    go_enter Try.func12, Try.ntmps12
    go_wp2_with (first | (go_at_call 44; refine k.mono ?_; rintro e w' ⟨rfl, h1⟩; obtain rfl := h1.symm))
    go_ret2
    exact ⟨none, 0, 0, rfl, RowB.nil _ _, Below.refl _ _⟩
  | some it =>
    obtain ⟨K, x, hK, rfl, hx, hKl, hne⟩ := look_at hi
    have k := at_yes h n K x hK hx hne (by omega)
    have hm : x.it ∈ itsD D := List.mem_map.2 ⟨x, List.mem_of_getElem? hK, rfl⟩
    obtain ⟨gg, rfl, _, r1, r2, _, cc0, cc1, cc2, cc3, cc4⟩ := h.some_ hK
    simp only
    by_cases his : x.it.is = true
    · rw [his] at cc3
      rw [if_pos his, if_pos his]
      have hits := h.its x (List.mem_of_getElem? hK)
      have hw := (hok.wts x.it hm).1
      have hpl := hok.pageLen hm
      obtain ⟨sw, esw⟩ : ∃ sw, x.sw = sw := ⟨_, rfl⟩
      obtain ⟨sp, esp⟩ : ∃ sp, x.sp = sp := ⟨_, rfl⟩
      obtain ⟨wa, wn, wc⟩ := sw
      obtain ⟨pa, pn, pc⟩ := sp
      rw [esw] at cc1 hits
      rw [esp] at cc2 hits
      simp only at cc1 cc2 hits
      have hwl := hits.1.len
      have hpl' := hits.2.len
      have k45 := fun m => refFetched_call (hr.drewN m) hok.good pa pn pc x.it.P (hits.2.reads.drewN m) (by omega) (wn : Int) (by omega) (by omega)
      rw [hwl]
      obtain ⟨E, eE⟩ : ∃ E, fetchE s x.it.P (wn : Int) = E := ⟨_, rfl⟩
      obtain ⟨V, eV⟩ : ∃ V, fetchR s x.it.P (wn : Int) = V := ⟨_, rfl⟩
      simp only [eE, eV] at k45 ⊢
      have hwn : wn ≤ 2000 := by omega
      clear h hi hr hok hK hx hne his hits hw esw esp hwl hpl hpl' hm eE eV
      go_enter Try.func12, Try.ntmps12
      go_wp2_with (first | (go_at_call 44; refine k.mono ?_; rintro e w' ⟨rfl, h1⟩; obtain rfl := h1.symm))
      go_region_held3 (fun W => W.cell? ⟨y, 0, none⟩ = some (.pointer (some ⟨p, 0, none⟩)) ∧ W.cell? ⟨y, 1, none⟩ = some (.slice (some ⟨gg, 0, none⟩) D.length c) ∧ W.cell? ⟨gg, K * 5 + 1, none⟩ = some (.slice wa wn wc) ∧ W.cell? ⟨gg, K * 5 + 2, none⟩ = some (.slice pa pn pc)) (first | assumption | (exact ⟨c0, c1, cc1, cc2⟩) | exact d35) (first
        | (go_at_call 45; refine (k45 1).mono ?_; rintro e V1 ⟨a', l', c', rfl, h1, _, h2⟩; have H1 := hidden_ (And.intro h1 h2); have d35 : V1.cell? ⟨y, 0, none⟩ = some (.pointer (some ⟨p, 0, none⟩)) ∧ V1.cell? ⟨y, 1, none⟩ = some (.slice (some ⟨gg, 0, none⟩) D.length c) ∧ V1.cell? ⟨gg, K * 5 + 1, none⟩ = some (.slice wa wn wc) ∧ V1.cell? ⟨gg, K * 5 + 2, none⟩ = some (.slice pa pn pc) := ⟨(h2.cell (World.block_lt_of_cell? w _ c0)).trans c0, (h2.cell (World.block_lt_of_cell? w _ c1)).trans c1, (h2.cell (World.block_lt_of_cell? w _ cc1)).trans cc1, (h2.cell (World.block_lt_of_cell? w _ cc2)).trans cc2⟩; clear h1 h2))
      all_goals
        go_wp2
        go_ret2
        exact ⟨_, _, _, rfl, H1.out.1, ⟨H1.out.2.os, H1.out.2.tape, H1.out.2.output, H1.out.2.size, H1.out.2.block⟩⟩
    · rw [show x.it.is = false by simpa using his] at cc3
      rw [if_neg his, if_neg his]
      clear h hi hr hok hK hx hne his hm
      go_enter Try.func12, Try.ntmps12
      go_wp2_with (first | (go_at_call 44; refine k.mono ?_; rintro e w' ⟨rfl, h1⟩; obtain rfl := h1.symm))
      go_ret2
      exact ⟨none, 0, 0, rfl, RowB.nil _ _, Below.refl _ _⟩
end

/- The document's shelf: items are laid behind a row. -/
section
open Go.ChangeShapes Go.WideShapes Go.ChangeAt Go.RowKit
set_option linter.unusedVariables false
set_option linter.unusedSimpArgs false

theorem info82 : (Try.prog.info? 82).map (fun i => (i.zero, i.size, i.bytes)) = some (some (.agg #[.string ⟨#[]⟩, .slice none 0 0, .slice none 0 0, .bool false, .int .i64 0]), 5, 80) := by kernel_rfl
theorem own_form5 {w : World} {B : Nat} {e : TypeId} {v : Value} {n : Nat} {cs : List Value} (h : w.ownsRow B e 5 v n cs) : ∃ a c, v = .slice a n c := by
  rcases h.2 with ⟨h1, h2⟩ | ⟨g, cap, cur, h1, _⟩
  · exact ⟨none, 0, by rw [h1, h2]⟩
  · exact ⟨_, _, h1⟩
theorem own_mono {w : World} {B B' : Nat} {e : TypeId} {q : Nat} {v : Value} {n : Nat} {cs : List Value} (h : w.ownsRow B e q v n cs) (hb : B' ≤ B) : w.ownsRow B' e q v n cs :=
  ⟨h.1, h.2.imp id fun ⟨g, cap, cur, h1, h2, h3⟩ => ⟨g, cap, cur, h1, Nat.le_trans hb h2, h3⟩⟩
theorem cellsD_one (D : List DI) : ∀ u ∈ cellsD D, u.oneCell' = true := by
  intro u hu
  obtain ⟨x, _, hx⟩ := List.mem_flatMap.1 hu
  simp only [DI.cells, List.mem_cons, List.not_mem_nil, or_false] at hx
  rcases hx with rfl | rfl | rfl | rfl | rfl <;> rfl
/-- items that lie somewhere are laid behind a row of items -/
theorem run_append5 {B : Nat} {w : World} {a : Option Addr} {n c : Nat} {D E : List DI} (hown : w.ownsRow B 82 5 (.slice a n c) n (cellsD D)) (hB : B ≤ w.heap.size) (X : Addr) (m xc : Nat) (hm : E.length = m) (hE : ∀ j u, (cellsD E)[j]? = some u → w.cell? (X.add j) = some u) (hn : n ≤ 100000) (hm' : m ≤ 100000) (ty : TypeId) :
    ∃ a' c' W, (Builtin.append_ #[34, 34] ty #[.slice a n c, .slice (some X) m xc]).run Try.prog w = .ok (.slice a' (n + m) c') W ∧ W.ownsRow B 82 5 (.slice a' (n + m) c') (n + m) (cellsD (D ++ E)) ∧ Below B w W ∧ OffS B (fun _ => false) (blkOf a) w W := by
  obtain ⟨i0, hi, hz0, hz1, hz2⟩ := info_parts info82
  obtain ⟨v', w', hr, ho, hg, _, _⟩ := run_append_own_at (P := Try.prog) (w := w) B 34 ty 82 i0 _ 5 80 Try.underlying34 hi hz0 hz1 hz2 rfl (by decide) _ n _ hown X m xc (cellsD E) (by rw [cellsD_len, hm]) hE (cellsD_one E) (by unfold maxLen; omega) (by omega) hB
  obtain ⟨a', c', rfl⟩ := own_form5 ho
  rw [← cellsD_append] at ho
  have hbl := (Below.refl B w).grown hg hB (fun k e => (hown.lt k e).1)
  refine ⟨a', c', w', hr, ho, hbl, hbl.os, hbl.tape, hbl.output, hbl.size, fun k hk hc => hc.elim (fun q => hbl.block k q) fun q => hg.block k hk fun e => q.1 ?_⟩
  cases a with
  | none => cases e
  | some q' => exact ⟨q', rfl, Eq.symm (by simpa [Value.ownBlock] using e)⟩
theorem run_build34 (w : World) : (Instr.buildSlice 34 0 #[]).run Try.prog w = .ok (.slice (some ⟨w.heap.size, 0, none⟩) 0 0) (w.alloc (.cells #[] 82)) := by go_simp
theorem run_build34v (x : DI) (w : World) : (Instr.buildSlice 34 1 #[(0, .agg x.cells.toArray)]).run Try.prog w = .ok (.slice (some ⟨w.heap.size, 0, none⟩) 1 1) (w.alloc (.cells x.cells.toArray 82)) := by
  unfold DI.cells
  go_simp
theorem run_field36 (y f : Nat) (hf : f < 2) (w : World) : (Instr.fieldAt 36 (.pointer (some ⟨y, 0, none⟩)) f).run Try.prog w = .ok (.pointer (some ⟨y, f, none⟩)) w := by
  rcases (show f = 0 ∨ f = 1 by omega) with rfl | rfl <;> go_simp
theorem run_load34 {w : World} {q : Addr} {a : Option Addr} {n c : Nat} (h : w.cell? q = some (.slice a n c)) : (Instr.loadAt 34 (.pointer (some q))).run Try.prog w = .ok (.slice a n c) w := by go_simp
theorem run_store34 {w : World} {q : Addr} {a a' : Option Addr} {n c n' c' : Nat} (h : w.cell? q = some (.slice a n c)) (hf : w.frozen? q = false) : (Instr.storeAt 34 (.pointer (some q)) (.slice a' n' c')).run Try.prog w = .ok () (w.setCell q (.slice a' n' c')) := by go_simp
/-- the row is another -/
theorem DsAt.row {B : Nat} {w W : World} {y p : Nat} {a : Option Addr} {c : Nat} {D D' : List DI} (h : DsAt B w y p a c D) (hW : OffS B (fun _ => false) (blkOf a) w W) {a' : Option Addr} {c' : Nat} (own : W.ownsRow B 82 5 (.slice a' D'.length c') D'.length (cellsD D')) (its : ∀ x ∈ D', RowB B W x.sw.a x.sw.n x.sw.c x.it.W ∧ RowI B W x.sp.a x.sp.n x.sp.c x.it.P) :
    DsAt B (W.setCell ⟨y, 1, none⟩ (.slice a' D'.length c')) y p a' c' D' ∧ (Instr.storeAt 34 (.pointer (some ⟨y, 1, none⟩)) (.slice a' D'.length c')).run Try.prog W = .ok () (W.setCell ⟨y, 1, none⟩ (.slice a' D'.length c')) ∧ OffS B (fun t => t == 36) (blkOf a) w (W.setCell ⟨y, 1, none⟩ (.slice a' D'.length c')) := by
  have ey := hW.row h.top rfl (fun hb => by obtain ⟨_, m, r⟩ := own_blk h.own hb; exact r.ne h.top (by decide) rfl)
  have top := h.top.of_block ey
  have c0 := (World.cell?_of_block (w := w) (a := ⟨y, 0, none⟩) ey).trans h.c0
  have c1 := (World.cell?_of_block (w := w) (a := ⟨y, 1, none⟩) ey).trans h.c1
  have o : Off B (fun t => t == 36) W (W.setCell ⟨y, 1, none⟩ (.slice a' D'.length c')) := Off.set top h.By rfl 1 _
  refine ⟨⟨top.set 1 _, h.By, (World.cell?_setCell_other _ _ _ _ (by simp)).trans c0, World.cell?_setCell_same _ _ _ c1, own_keep own fun k hk => ?_, fun x hx => ⟨(its x hx).1.off o rfl, (its x hx).2.off o rfl⟩⟩, run_store34 c1 (top.open_ 1), (hW.mono (fun _ _ => rfl) (fun _ h => h)).trans (o.toS (blkOf a)) (fun _ h => .inl h)⟩
  obtain ⟨_, m, r⟩ := own_blk own hk
  exact o.row r rfl
end

/- The document's shelf: how much room there is. -/
section
open Go.ChangeShapes Go.WideShapes Go.ChangeAt Go.RowKit
set_option linter.unusedVariables false
set_option linter.unusedSimpArgs false

def lsTo (D : List DI) (k : Nat) : Nat := (looseP (itsD (D.take k))).length
theorem lsTo_succ {D : List DI} {k : Nat} {u : DI} (h : D[k]? = some u) : lsTo D (k + 1) = lsTo D k + (if loose u.it = true then u.it.P.length else 0) := by
  unfold lsTo
  rw [take_at h]
  unfold looseP itsD
  rw [List.map_append, List.filter_append, List.flatMap_append, List.length_append]
  congr 1
  simp only [List.map_cons, List.map_nil]
  by_cases e : loose u.it = true
  · rw [if_pos e, List.filter_cons_of_pos e]; simp
  · rw [if_neg e, List.filter_cons_of_neg e]; simp
theorem refRoom_call {B : Nat} {w : World} {y p g cap : Nat} {a : Option Addr} {c : Nat} {D : List DI} {s : Pl} {r : Nat → Nat} (h : DsAt B w y p a c D) (hr : RefAt B w p g s r) (hok : ShOk cap s (itsD D)) (hc : cap ≤ 1000) :
    Calls Try.prog 20 #[.pointer (some ⟨y, 0, none⟩)] w fun e w' => e = .returned (.int .i64 (roomZ s (itsD D))) ∧ ∃ m, w' = w.drewN m := by
  have hl : D.length ≤ 1000 := by have := hok.few; unfold itsD at this; rw [List.length_map] at this; omega
  have k49 := refHand_call h hr hok.good
  have hh : hand s = (freeTo s.pg s.n : Int) - s.aside := rfl
  have hf := freeTo_le s.pg s.n
  have hg := hok.good
  have q1 := hg.n1
  have q2 := hg.a0
  have q3 := hg.a1
  have HD := hidden_ h
  have HP := hidden_ (fun (u : DI) (k : Nat) (hu : D[k]? = some u) => hok.pageLen (List.mem_map.2 ⟨u, List.mem_of_getElem? hu, rfl⟩))
  have e : roomZ s (itsD D) = hand s + (lsTo D D.length : Int) := by unfold roomZ lsTo; rw [List.take_length]
  rw [e]
  obtain ⟨Hd, eH⟩ : ∃ Hd, hand s = Hd := ⟨_, rfl⟩
  have b0 : 0 ≤ Hd := by omega
  have b1 : Hd ≤ 256 := by omega
  rw [eH] at k49 ⊢
  have c1 := h.c1
  clear h hr hok hf q1 q2 q3 hh e eH hg
  go_enter Try.func20, Try.ntmps20
  go_wp2_with (first | (go_at_call 49; refine k49.mono ?_; rintro e w' ⟨rfl, m, hm⟩; clear k49))
  obtain rfl := hm
  go_loopw [3, 4] (fun v i wr => ∃ (k : Nat), k ≤ D.length ∧ i = .int .i64 k ∧ v = .int .i64 (Hd + (lsTo D k : Int)) ∧ lsTo D k ≤ 63 * k ∧ wr = w.drewN m) (fun _ i _ => D.length - (intOf i).toNat)
  case atStart => exact ⟨0, Nat.zero_le _, rfl, by simp [lsTo, looseP, itsD], by simp [lsTo, looseP, itsD], rfl⟩
  case round =>
    obtain ⟨k, hk, rfl, rfl, hls, rfl⟩ := hrel
    have h' := HD.out.drewN m
    have c1' := h'.c1
    by_cases hlt : k < D.length
    · obtain ⟨u, hu⟩ := at_lt hlt
      obtain ⟨gg, rfl, _, r1, r2, _, _, _, cc2, cc3, cc4⟩ := h'.some_ hu
      have hs := lsTo_succ hu
      have hp := HP.out u k hu
      have hn := (h'.its u (List.mem_of_getElem? hu)).2.len
      obtain ⟨S0, eS0⟩ : ∃ S0, lsTo D k = S0 := ⟨_, rfl⟩
      obtain ⟨S1, eS1⟩ : ∃ S1, lsTo D (k + 1) = S1 := ⟨_, rfl⟩
      rw [eS0] at hs hls ⊢
      rw [eS1] at hs
      obtain ⟨sp, esp⟩ : ∃ sp, u.sp = sp := ⟨_, rfl⟩
      obtain ⟨pa, pn, pc⟩ := sp
      rw [esp] at cc2 hn
      simp only at cc2 hn
      rw [hn] at hs
      by_cases hi : u.it.is = true
      · rw [hi] at cc3
        by_cases hpn : u.it.pins = 0
        · rw [hpn, show ((0 : Nat) : Int) = 0 from rfl] at cc4
          rw [if_pos (by simp [loose, hi, hpn])] at hs
          have hpn' : pn ≤ 63 := by omega
          have hsum : Hd + (S0 : Int) + (pn : Int) = Hd + (S1 : Int) := by omega
          clear h' hu HP hi hn esp hpn hp eS0 c1
          go_wp2
          go_roundw
          case rel => exact ⟨k + 1, by omega, by go_num, by rw [eS1]; congr 1; omega, by rw [eS1]; omega, trivial⟩
          case measure => simp [intOf]; omega
        · rw [if_neg (by simp [loose, hi, hpn])] at hs
          obtain ⟨pz, ep⟩ : ∃ pz : Int, (u.it.pins : Int) = pz := ⟨_, rfl⟩
          rw [ep] at cc4
          have hz : ¬ pz = 0 := by omega
          have hz' : (pz == 0) = false := by simp [hz]
          clear h' hu HP hi hn esp hpn hp c1 ep
          go_wp2
          go_roundw
          case rel => exact ⟨k + 1, by omega, by go_num, by rw [eS1, hs]; simp, by rw [eS1]; omega, trivial⟩
          case measure => simp [intOf]; omega
      · rw [show u.it.is = false by simpa using hi] at cc3
        rw [if_neg (by simp [loose, hi])] at hs
        clear h' hu HP hi hn esp hp c1
        go_wp2
        go_roundw
        case rel => exact ⟨k + 1, by omega, by go_num, by rw [eS1, hs]; simp, by rw [eS1]; omega, trivial⟩
        case measure => simp [intOf]; omega
    · have e : k = D.length := by omega
      subst e
      clear h' c1
      go_wp2
      go_ret
      exact ⟨rfl, _, rfl⟩
end

/- The document's shelf: one yields. -/
section
open Go.ChangeShapes Go.WideShapes Go.ChangeAt Go.RowKit
set_option linter.unusedVariables false
set_option linter.unusedSimpArgs false

theorem Off.widen {B : Nat} {T T' : TypeId → Bool} {w w' : World} (h : Off B T w w') (hT : ∀ t, T' t = false → T t = false) : Off B T' w w' :=
  ⟨h.os, h.tape, h.output, h.size, fun k hk hc => h.block k hk (hc.imp id fun q t ht => hT t (q t ht))⟩
/-- what the document's shelf writes -/
def TZ (t : TypeId) : Bool := TR t || t == 82 || t == 36
theorem tz_tr : ∀ t, TZ t = false → TR t = false := fun t h => by unfold TZ at h; revert h; cases TR t <;> simp
theorem tz_82 : ∀ t, TZ t = false → (t == 82) = false := fun t h => by unfold TZ at h; revert h; cases TR t <;> cases (t == 82) <;> simp
theorem tz_36 : ∀ t, TZ t = false → (t == 36) = false := fun t h => by unfold TZ at h; revert h; cases TR t <;> cases (t == 82) <;> cases (t == 36) <;> simp
theorem DsAt.toZ {B : Nat} {w w' : World} {y p : Nat} {a : Option Addr} {c : Nat} {D : List DI} (h : DsAt B w y p a c D) {T : TypeId → Bool} (hT : ∀ t, TZ t = false → T t = false) (o : OffS B T (blkOf a) w w') : Off B TZ w w' :=
  ⟨o.os, o.tape, o.output, o.size, fun k hk hc => o.block k hk (hc.imp id fun q => ⟨(fun hb => by
    obtain ⟨_, m, r⟩ := own_blk h.own hb
    have := q _ r.type
    cases this), fun t ht => hT t (q t ht)⟩)⟩
theorem find_at {D : List DI} {it : It} (h : (itsD D).find? loose = some it) : ∃ (K : Nat) (x : DI), D[K]? = some x ∧ x.it = it ∧ loose x.it = true ∧ K < D.length ∧ ∀ (j : Nat) (u : DI), j < K → D[j]? = some u → loose u.it = false := by
  unfold itsD at h
  induction D with
  | nil => cases h
  | cons v q ih =>
    rw [List.map_cons] at h
    by_cases e : loose v.it = true
    · rw [List.find?_cons_of_pos e] at h
      exact ⟨0, v, rfl, Option.some.inj h, e, by simp, fun j u hj => by omega⟩
    · rw [List.find?_cons_of_neg e] at h
      obtain ⟨K, x, h1, h2, h3, h4, h5⟩ := ih h
      refine ⟨K + 1, x, by simpa using h1, h2, h3, by simp; omega, fun j u hj hu => ?_⟩
      cases j with
      | zero =>
        obtain rfl : v = u := by simpa using hu
        simpa using e
      | succ j => exact h5 j u (by omega) (by simpa using hu)
theorem find_no {D : List DI} (h : (itsD D).find? loose = none) : ∀ (j : Nat) (u : DI), D[j]? = some u → loose u.it = false := fun j u hu => by
  have := List.find?_eq_none.1 h u.it (List.mem_map.2 ⟨u, List.mem_of_getElem? hu, rfl⟩)
  simpa using this
theorem loose_parts {x : It} (h : loose x = false) : x.is = false ∨ (x.is = true ∧ ¬ x.pins = 0) := by
  unfold loose at h
  cases hi : x.is with
  | false => exact .inl rfl
  | true => rw [hi] at h; exact .inr ⟨rfl, by simpa using h⟩
theorem refYield_call {B : Nat} {w : World} {y p g cap : Nat} {a : Option Addr} {c : Nat} {D : List DI} {s : Pl} {r : Nat → Nat} (h : DsAt B w y p a c D) (hr : RefAt B w p g s r) (hok : ShOk cap s (itsD D)) (hc : cap ≤ 1000) :
    Calls Try.prog 41 #[.pointer (some ⟨y, 0, none⟩)] w fun e w' => e = .returned (.bool (yieldB (itsD D))) ∧ (∃ D' r', DsAt B w' y p a c D' ∧ RefAt B w' p g (yieldP s (itsD D)).1 r' ∧ itsD D' = (yieldP s (itsD D)).2) ∧ OffS B TR (blkOf a) w w' := by
  have hl : D.length ≤ 1000 := by have := hok.few; unfold itsD at this; rw [List.length_map] at this; omega
  have c0 := h.c0
  have c1 := h.c1
  unfold yieldB yieldP
  have HD := hidden_ h
  have skip : Hid (∀ (k : Nat) (u : DI), D[k]? = some u → loose u.it = false → ∃ gg, a = some ⟨gg, 0, none⟩ ∧ D.length ≤ c ∧ c ≤ maxLen ∧ k < D.length ∧ ((w.cell? ⟨gg, k * 5 + 3, none⟩ = some (.bool false)) ∨ (w.cell? ⟨gg, k * 5 + 3, none⟩ = some (.bool true) ∧ ∃ pz : Int, ¬ pz = 0 ∧ w.cell? ⟨gg, k * 5 + 4, none⟩ = some (.int .i64 pz)))) := hidden_ (fun k u hu hlo => by
    obtain ⟨gg, rfl, _, r1, r2, r3, cc0, cc1, cc2, cc3, cc4⟩ := HD.out.some_ hu
    refine ⟨gg, rfl, r1, r2, r3, ?_⟩
    rcases loose_parts hlo with e | ⟨e, e2⟩
    · rw [e] at cc3; exact .inl cc3
    · rw [e] at cc3; exact .inr ⟨cc3, _, by omega, cc4⟩)
  cases hi : (itsD D).find? loose with
  | none =>
    have HN := hidden_ (find_no hi)
    have HR := hidden_ hr
    clear h hi hok hr
    go_enter Try.func41, Try.ntmps41
    go_wp2
    go_loopw [3] (fun i wr => ∃ k : Nat, k ≤ D.length ∧ i = .int .i64 k ∧ wr = w) (fun i _ => D.length - (intOf i).toNat)
    case atStart => exact ⟨0, Nat.zero_le _, rfl, rfl⟩
    case round =>
      obtain ⟨k, hk, rfl, rfl⟩ := hrel
      by_cases hlt : k < D.length
      · obtain ⟨u, hu⟩ := at_lt hlt
        obtain ⟨gg, rfl, r1, r2, _, cc⟩ := skip.out k u hu (HN.out k u hu)
        clear hu
        rcases cc with cc3 | ⟨cc3, pz, hz, cc4⟩
        · go_wp2
          go_roundw
          case rel => exact ⟨k + 1, by omega, by go_num, trivial⟩
          case measure => simp [intOf]; omega
        · have hz' : (pz == 0) = false := by simp [hz]
          go_wp2
          go_roundw
          case rel => exact ⟨k + 1, by omega, by go_num, trivial⟩
          case measure => simp [intOf]; omega
      · have e : k = D.length := by omega
        subst e
        go_wp2
        go_ret
        exact ⟨rfl, ⟨D, r, HD.out, HR.out, rfl⟩, OffS.refl _ _ _ _⟩
  | some it =>
    obtain ⟨K, x, hK, rfl, hx, hKl, hne⟩ := find_at hi
    have HN := hidden_ hne
    obtain ⟨gg, ha, hBg, r1, r2, _, cc0, cc1, cc2, cc3, cc4⟩ := h.some_ hK
    subst ha
    have hm : x.it ∈ itsD D := List.mem_map.2 ⟨x, List.mem_of_getElem? hK, rfl⟩
    obtain ⟨_, i1, i2⟩ := find_loose hi
    rw [i1] at cc3
    rw [i2, show ((0 : Nat) : Int) = 0 from rfl] at cc4
    have hits := h.its x (List.mem_of_getElem? hK)
    have hpl := hok.pageLen hm
    have hpl' := hits.2.len
    have k61 := fun m => refRelease_call (hr.drewN m) hok.good (by omega) x.sp.a x.sp.n x.sp.c x.it.P (fun w' o => (((HD.out.drewN m).its x (List.mem_of_getElem? hK)).2.off o rfl).reads) (by omega)
    have key : Hid (∀ W1, (∃ r', RefAt B W1 p g (relS s x.it.P) r') → Off B TR (w.drewN 1) W1 → W1.cell? ⟨y, 0, none⟩ = some (.pointer (some ⟨p, 0, none⟩)) ∧ W1.cell? ⟨y, 1, none⟩ = some (.slice (some ⟨gg, 0, none⟩) D.length c) ∧ W1.cell? ⟨gg, K * 5 + 1, none⟩ = some (.slice x.sw.a x.sw.n x.sw.c) ∧ W1.cell? ⟨gg, K * 5 + 2, none⟩ = some (.slice x.sp.a x.sp.n x.sp.c) ∧ W1.cell? ⟨gg, K * 5 + 3, none⟩ = some (.bool true) ∧ W1.frozen? ⟨gg, K * 5 + 3, none⟩ = false ∧
        ∃ W2, W1.setCell ⟨gg, K * 5 + 3, none⟩ (.bool false) = W2 ∧ W2.cell? ⟨y, 1, none⟩ = some (.slice (some ⟨gg, 0, none⟩) D.length c) ∧ W2.cell? ⟨gg, K * 5 + 2, none⟩ = some (.slice x.sp.a x.sp.n x.sp.c) ∧ W2.frozen? ⟨gg, K * 5 + 2, none⟩ = false ∧
        (∃ D' r', DsAt B (W2.setCell ⟨gg, K * 5 + 2, none⟩ (.slice none 0 0)) y p (some ⟨gg, 0, none⟩) c D' ∧ RefAt B (W2.setCell ⟨gg, K * 5 + 2, none⟩ (.slice none 0 0)) p g (relS s x.it.P) r' ∧ itsD D' = rel (itsD D) x.it.nm) ∧ OffS B TR (blkOf (some ⟨gg, 0, none⟩)) w (W2.setCell ⟨gg, K * 5 + 2, none⟩ (.slice none 0 0))) := hidden_ (by
      rintro W1 ⟨r', hr1⟩ o1
      have h1 := (HD.out.drewN 1).off o1 rfl rfl rfl rfl
      obtain ⟨g1, e1, _, _, _, _, _, q1, q2, q3, q4⟩ := h1.some_ hK
      obtain rfl : gg = g1 := by cases e1; rfl
      rw [i1] at q3
      refine ⟨h1.c0, h1.c1, q1, q2, q3, ?_⟩
      have it1 := h1.its x (List.mem_of_getElem? hK)
      obtain ⟨s1, f1, p1⟩ := h1.set (x' := { x with it := { x.it with is := false } }) rfl hK (show 3 < 5 by decide) (.bool false) rfl it1
      have hK2 : (D.set K { x with it := { x.it with is := false } })[K]? = some { x with it := { x.it with is := false } } := by rw [List.getElem?_set_self hKl]
      obtain ⟨g2, e2, _, _, _, _, _, _, z2, _, _⟩ := s1.some_ hK2
      obtain rfl : gg = g2 := by cases e2; rfl
      have c12 := s1.c1
      rw [List.length_set] at c12
      have it2 := s1.its { x with it := { x.it with is := false } } (List.mem_of_getElem? hK2)
      obtain ⟨s2, f2, p2⟩ := s1.set (x' := ⟨gone x.it, x.sw, ⟨none, 0, 0⟩⟩) rfl hK2 (show 2 < 5 by decide) (.slice none 0 0) rfl ⟨it2.1, RowI.nil _ _⟩
      rw [List.set_set] at s2
      refine ⟨f1, _, rfl, c12, z2, f2, ⟨_, r', s2, ((hr1.off p1 rfl rfl rfl).off p2 rfl rfl rfl), itsD_set hok.nd hK gone rfl⟩, ?_⟩
      exact ((((show Off B TR w W1 from ⟨o1.os, o1.tape, o1.output, o1.size, o1.block⟩).toS _).trans (OffS.set (S := blkOf (some ⟨gg, 0, none⟩)) hBg ⟨_, rfl, rfl⟩ _ _) (fun i h => .inl h)).trans (OffS.set (S := blkOf (some ⟨gg, 0, none⟩)) hBg ⟨_, rfl, rfl⟩ _ _) (fun i h => .inl h)))
    obtain ⟨pl, ep⟩ : ∃ pl, x.it.P = pl := ⟨_, rfl⟩
    obtain ⟨nm, en⟩ : ∃ nm, x.it.nm = nm := ⟨_, rfl⟩
    obtain ⟨E, eE⟩ : ∃ E, relE s x.it.P = E := ⟨_, rfl⟩
    obtain ⟨wa, wn, wc, ew⟩ : ∃ wa wn wc, x.sw = ⟨wa, wn, wc⟩ := ⟨_, _, _, rfl⟩
    obtain ⟨pa, pn, pc, es⟩ : ∃ pa pn pc, x.sp = ⟨pa, pn, pc⟩ := ⟨_, _, _, rfl⟩
    simp only [eE] at k61
    simp only [es, ew] at k61 key cc1 cc2
    clear h hi hok hr hK hx hm i1 i2 hits hpl hpl' hne ep en eE ew es
    go_enter Try.func41, Try.ntmps41
    go_wp2
    go_loopw [3] (fun i wr => ∃ k : Nat, k ≤ K ∧ i = .int .i64 k ∧ wr = w) (fun i _ => D.length - (intOf i).toNat)
    case atStart => exact ⟨0, Nat.zero_le _, rfl, rfl⟩
    case round =>
      obtain ⟨k, hk, rfl, rfl⟩ := hrel
      by_cases hlt : k < K
      · obtain ⟨u, hu⟩ := at_lt (show k < D.length by omega)
        obtain ⟨g1, e1, _, _, hkd, cc⟩ := skip.out k u hu (HN.out k u hlt hu)
        obtain rfl : gg = g1 := by cases e1; rfl
        clear hu cc3 cc4
        rcases cc with cc3 | ⟨cc3, pz, hz, cc4⟩
        · go_wp2
          go_roundw
          case rel => exact ⟨k + 1, by omega, by go_num, trivial⟩
          case measure => simp [intOf]; omega
        · have hz' : (pz == 0) = false := by simp [hz]
          go_wp2
          go_roundw
          case rel => exact ⟨k + 1, by omega, by go_num, trivial⟩
          case measure => simp [intOf]; omega
      · have e : k = K := by omega
        subst e
        go_wp2
        go_region_held3 (fun W => W.cell? ⟨y, 0, none⟩ = some (.pointer (some ⟨p, 0, none⟩)) ∧ W.cell? ⟨y, 1, none⟩ = some (.slice (some ⟨gg, 0, none⟩) D.length c) ∧ W.cell? ⟨gg, k * 5 + 1, none⟩ = some (.slice wa wn wc) ∧ W.cell? ⟨gg, k * 5 + 2, none⟩ = some (.slice pa pn pc)) (first | assumption | (exact ⟨c0, c1, cc1, cc2⟩) | exact d35) (first
          | (go_at_call 61; refine (k61 1).mono ?_; rintro e V1 ⟨rfl, hr1, o1⟩; obtain ⟨b0, b1, b2, b3, b4, f3, V2, eV2, e1, e2, f2, h3, o3⟩ := key.out V1 hr1 o1; have d35 := And.intro b0 (And.intro b1 (And.intro b2 b3)); have H3 := hidden_ (And.intro h3 o3); clear hr1 o1 h3 o3 b0 b1 b2 b3))
        all_goals
          obtain ⟨b0, b1, b2, b3⟩ := d35
          go_wp2
          go_ret
          exact ⟨rfl, H3.out.1, H3.out.2⟩
end

/- The document's shelf: one is taken out. -/
section
open Go.ChangeShapes Go.WideShapes Go.ChangeAt Go.RowKit
set_option linter.unusedVariables false
set_option linter.unusedSimpArgs false

theorem run_slice34 (gg L c K : Nat) (hK : K ≤ L) (hL : L ≤ c) (hc : c ≤ 9223372036854775807) (w : World) : (Instr.sliceAt 34 (.slice (some ⟨gg, 0, none⟩) L c) none (some (.int .i64 K)) none).run Try.prog w = .ok (.slice (some ⟨gg, 0, none⟩) K c) w := by
  have h1 : ¬ ((K : Int) < 0) := by omega
  have h2 : ¬ ((c : Int) < (K : Int)) := by omega
  have h3 : (K : Int) ≤ (c : Int) := by omega
  go_simp
theorem run_slice34b (gg L c K : Nat) (hK : K ≤ L) (hL : L ≤ c) (hc : c ≤ 9223372036854775807) : ∃ X : Addr, (∀ w, (Instr.sliceAt 34 (.slice (some ⟨gg, 0, none⟩) L c) (some (.int .i64 K)) none none).run Try.prog w = .ok (.slice (some X) (L - K) (c - K)) w) ∧ (K < L → X = ⟨gg, K * 5, none⟩) ∧ X.block = gg := by
  have h1 : ¬ ((K : Int) < 0) := by omega
  have h2 : ¬ ((L : Int) < (K : Int)) := by omega
  have h3 : (K : Int) ≤ (L : Int) := by omega
  by_cases e : K = c
  · subst e
    obtain rfl : L = K := by omega
    exact ⟨⟨gg, 0, none⟩, fun w => by go_simp, fun h => by omega, rfl⟩
  · have e' : ¬ c = K := fun h => e h.symm
    exact ⟨⟨gg, K * 5, none⟩, fun w => by go_simp, fun _ => rfl, rfl⟩
theorem run_add1 (K : Nat) (hK : K ≤ 1000000) (w : World) : (binOp .add 3 (.int .i64 (K : Int)) (.int .i64 1)).run Try.prog w = .ok (.int .i64 ((K + 1 : Nat) : Int)) w := by
  obtain ⟨K1, e⟩ : ∃ K1 : Int, ((K + 1 : Nat) : Int) = K1 := ⟨_, rfl⟩
  rw [e]
  have h1 : (K : Int) + 1 = K1 := by omega
  have h2 : 0 ≤ K1 := by omega
  have h3 : K1 ≤ 1000001 := by omega
  clear e
  go_simp
  have h4 : K1 % 18446744073709551616 = K1 := Int.emod_eq_of_lt h2 (by omega)
  simp [IntKind.wrap, IntKind.signed, IntKind.bits, h4]
  intro h5
  omega
set_option maxRecDepth 20000 in
theorem refOut_call {B : Nat} {w : World} {y p : Nat} {a : Option Addr} {c : Nat} {D : List DI} (h : DsAt B w y p a c D) (hB : B ≤ w.heap.size) {K : Nat} {x : DI} (hK : D[K]? = some x) (hl : D.length ≤ 1000) :
    Calls Try.prog 62 #[.pointer (some ⟨y, 0, none⟩), .int .i64 (K : Int)] w fun e w' => e = .returned (.tuple #[]) ∧ (∃ a' c', DsAt B w' y p a' c' (D.take K ++ D.drop (K + 1)) ∧ ∀ k, blkOf a' k → w.heap.size ≤ k) ∧ OffS B (fun t => t == 36) (fun _ => False) w w' := by
  obtain ⟨gg, ha, hBg, r1, r2, hKl, _⟩ := h.some_ hK
  subst ha
  have hcell : ∀ {W : World}, Below w.heap.size w W → ∀ j, j < D.length * 5 → W.cell? ⟨gg, j, none⟩ = (cellsD D)[j]? := fun {W} hb j hj => (h.below hb).own.cellAt j hj
  have b0 : Below w.heap.size w w.drew := below_drew (Below.refl _ _) ⟨1, rfl⟩
  have b1 : Below w.heap.size w (w.drew.alloc (.cells #[] 82)) := below_new b0 (.cells #[] 82)
  have own1 : (w.drew.alloc (.cells #[] 82)).ownsRow w.heap.size 82 5 (.slice (some ⟨w.heap.size, 0, none⟩) 0 0) 0 (cellsD []) := ⟨rfl, .inr ⟨w.heap.size, 0, #[], rfl, Nat.le_refl _, heap_alloc_new w.drew _, Nat.le_refl _, Nat.zero_le _, rfl, rfl⟩⟩
  have hcm : c ≤ 9223372036854775807 := by unfold maxLen at r2; omega
  obtain ⟨va, vc, W2, x8, own2, bb2, kp2⟩ := run_append5 (E := D.take K) own1 b1.size ⟨gg, 0, none⟩ K c (by rw [List.length_take]; omega) (fun j u hj => by
    rw [← cellsD_take] at hj
    have hj5 : j < K * 5 := by have := (List.getElem?_eq_some_iff.1 hj).1; rw [List.length_take] at this; omega
    rw [show ((⟨gg, 0, none⟩ : Addr).add j) = ⟨gg, j, none⟩ by (simp [Addr.add]; intro h; exact h.symm), hcell b1 j (by omega), ← hj, List.getElem?_take, if_pos hj5]) (by omega) (by omega) 34
  have b2 : Below w.heap.size w W2 := b1.trans bb2
  obtain ⟨X, x15', hX, hXb⟩ := run_slice34b gg D.length c (K + 1) (by omega) r1 hcm
  obtain ⟨da, dc, W3, x16, own3, bb3, kp3⟩ := run_append5 (E := D.drop (K + 1)) own2 b2.size X (D.length - (K + 1)) (c - (K + 1)) (by rw [List.length_drop]) (fun j u hj => by
    rw [← cellsD_drop] at hj
    rw [List.getElem?_drop] at hj
    have hj5 := (List.getElem?_eq_some_iff.1 hj).1
    rw [cellsD_len] at hj5
    rw [hX (by omega), show ((⟨gg, (K + 1) * 5, none⟩ : Addr).add j) = ⟨gg, (K + 1) * 5 + j, none⟩ by simp [Addr.add], hcell b2 _ (by omega), hj]) (by omega) (by omega) 34
  have b3 : Below w.heap.size w W3 := b2.trans bb3
  have hlen : 0 + K + (D.length - (K + 1)) = (D.take K ++ D.drop (K + 1)).length := by rw [List.length_append, List.length_take, List.length_drop]; omega
  simp only [List.nil_append, Nat.zero_add] at own3 x16 x8 own2 hlen
  rw [hlen] at own3 x16
  obtain ⟨hD, hst, hoff⟩ := h.row (OffS.of_below b3) (own_mono own3 hB) (fun u hu => (h.below b3).its u (by
    rcases List.mem_append.1 hu with q | q
    · exact List.mem_of_mem_take q
    · exact List.mem_of_mem_drop q))
  have hoff2 := ((OffS.of_below (B := B) (T := fun t => t == 36) (S := fun _ => False) b3).trans ((Off.set (T := fun t => t == 36) (h.below b3).top (h.below b3).By rfl 1 (.slice da (D.take K ++ D.drop (K + 1)).length dc)).toS (fun _ => False)) (fun _ h => h.elim))
  go_enter Try.func62, Try.ntmps62
  refine ou_region y w.heap.size (K : Int) ((K + 1 : Nat) : Int) (some ⟨gg, 0, none⟩) D.length c (some ⟨gg, 0, none⟩) K c (some X) (D.length - (K + 1)) (c - (K + 1)) va K vc da _ dc _ W2 W3 _ (fun W => W.cell? ⟨y, 1, none⟩ = some (.slice (some ⟨gg, 0, none⟩) D.length c)) (by kernel_rfl) rfl ⟨_, rfl, rfl, rfl, rfl, by kernel_rfl⟩ ⟨_, rfl, rfl, rfl, rfl, by kernel_rfl⟩ ⟨_, rfl, rfl, rfl, rfl, by kernel_rfl⟩ ⟨_, rfl, rfl, rfl, rfl, by kernel_rfl⟩ ⟨_, rfl, rfl, rfl, rfl, by kernel_rfl⟩ ⟨_, rfl, rfl, rfl, rfl, by kernel_rfl⟩ ⟨_, rfl, rfl, rfl, rfl, by kernel_rfl⟩ ⟨_, rfl, rfl, rfl, rfl, by kernel_rfl⟩ ⟨_, rfl, rfl, rfl, rfl, by kernel_rfl⟩ ⟨_, rfl, rfl, rfl, rfl, by kernel_rfl⟩ ⟨_, rfl, rfl, rfl, rfl, by kernel_rfl⟩ ⟨_, rfl, rfl, rfl, rfl, by kernel_rfl⟩ ⟨_, rfl, rfl, rfl, rfl, by kernel_rfl⟩ ⟨_, rfl, rfl, rfl, rfl, by kernel_rfl⟩ ⟨_, rfl, rfl, rfl, rfl, by kernel_rfl⟩ ⟨_, rfl, rfl, rfl, rfl, by kernel_rfl⟩ ⟨_, rfl, rfl, rfl, rfl, by kernel_rfl⟩ ⟨_, rfl, rfl, rfl, rfl, by kernel_rfl⟩ ⟨_, rfl, rfl, rfl, rfl, by kernel_rfl⟩ ⟨_, rfl, rfl, rfl, rfl, by kernel_rfl⟩ 34 (fun o h => by cases h; rfl) 34 (fun o h => by cases h; rfl) h.c1 (h.below b1).c1 (h.below b2).c1 (h.below b3).c1 (run_build34 _) (run_field36 y 1 (by decide)) (fun W hW => run_load34 hW) (run_slice34 gg D.length c K (by omega) r1 hcm) x8 (run_field36 y 1 (by decide)) (fun W hW => run_load34 hW) (run_add1 K (by omega)) x15' x16 (run_field36 y 1 (by decide)) hst rfl rfl (Nat.le_of_ble_eq_true rfl) ?_
  intro A hs hd hkp hval
  refine bodyPost_end (results_none rfl _ _ _) hd ?_
  exact ⟨rfl, ⟨da, dc, hD, fun k hk => (own_blk own3 hk).1⟩, hoff2⟩
end

/- The document's shelf: one is removed. -/
section
open Go.ChangeShapes Go.WideShapes Go.ChangeAt Go.RowKit
set_option linter.unusedVariables false
set_option linter.unusedSimpArgs false

theorem itsD_out {D : List DI} {K : Nat} {x : DI} (hnd : Nd (itsD D)) (hK : D[K]? = some x) : itsD (D.take K ++ D.drop (K + 1)) = Ytfggkkhehaafcaa.rem (itsD D) x.it.nm := by
  unfold itsD Ytfggkkhehaafcaa.rem
  unfold itsD at hnd
  induction D generalizing K with
  | nil => cases hK
  | cons v q ih =>
    obtain ⟨h1, h2⟩ := List.pairwise_cons.1 hnd
    cases K with
    | zero =>
      obtain rfl : v = x := by simpa using hK
      rw [List.map_cons, List.filter_cons_of_neg (by simp)]
      simp only [List.take_zero, List.nil_append, List.drop_succ_cons, List.drop_zero]
      exact (List.filter_eq_self.2 fun u hu => by have : ¬ u.nm = v.it.nm := fun e => h1 u hu e.symm; simp [this]).symm
    | succ K =>
      have hK' : q[K]? = some x := by simpa using hK
      have hne : ¬ v.it.nm = x.it.nm := h1 x.it (List.mem_map.2 ⟨x, List.mem_of_getElem? hK', rfl⟩)
      rw [List.map_cons, List.filter_cons_of_pos (by simp [hne]), List.take_succ_cons, List.drop_succ_cons, List.cons_append, List.map_cons, ih h2 hK']
theorem refRemove_call {B : Nat} {w : World} {y p g cap : Nat} {a : Option Addr} {c : Nat} {D : List DI} {s : Pl} {r : Nat → Nat} (h : DsAt B w y p a c D) (hr : RefAt B w p g s r) (hok : ShOk cap s (itsD D)) (hc : cap ≤ 1000) (hB : B ≤ w.heap.size) (n : ByteArray) :
    Calls Try.prog 31 #[.pointer (some ⟨y, 0, none⟩), .string n] w fun e w' => e = .returned (.int .i64 (remE (itsD D) n)) ∧ (∃ a' c' D' r', DsAt B w' y p a' c' D' ∧ RefAt B w' p g (remS s (itsD D) n) r' ∧ itsD D' = remL (itsD D) n) ∧ Off B TZ w w' := by
  have hl : D.length ≤ 1000 := by have := hok.few; unfold itsD at this; rw [List.length_map] at this; omega
  have c0 := h.c0
  have c1 := h.c1
  cases hi : look (itsD D) n with
  | none =>
    have e0 : remE (itsD D) n = 25 := by unfold remE; rw [hi]
    have e1 : remL (itsD D) n = itsD D := by unfold remL; rw [if_neg (by rw [e0]; decide)]
    have e2 : remS s (itsD D) n = s := by unfold remS; rw [hi]
    have k := at_no h n (look_not hi) (by omega)
    have HH := hidden_ (And.intro h hr)
    rw [e0, e1, e2]
    clear h hi hr hok e0 e1 e2
    go_enter Try.func31, Try.ntmps31
    go_wp2_with (first | (go_at_call 44; refine k.mono ?_; rintro e w' ⟨rfl, h1⟩; obtain rfl := h1.symm))
    go_ret
    exact ⟨rfl, ⟨a, c, D, r, HH.out.1, HH.out.2, rfl⟩, Off.refl _ _ _⟩
  | some it =>
    obtain ⟨K, x, hK, rfl, hx, hKl, hne⟩ := look_at hi
    have k := at_yes h n K x hK hx hne (by omega)
    have hm : x.it ∈ itsD D := List.mem_map.2 ⟨x, List.mem_of_getElem? hK, rfl⟩
    obtain ⟨gg, ha, hBg, r1, r2, _, cc0, cc1, cc2, cc3, cc4⟩ := h.some_ hK
    subst ha
    by_cases hp : 0 < x.it.pins
    · have e0 : remE (itsD D) n = 27 := by unfold remE; rw [hi]; simp only; rw [if_pos hp]
      have e1 : remL (itsD D) n = itsD D := by unfold remL; rw [if_neg (by rw [e0]; decide)]
      have e2 : remS s (itsD D) n = s := by unfold remS; rw [hi]; simp only; rw [if_pos hp]
      have HH := hidden_ (And.intro h hr)
      obtain ⟨pz, ep⟩ : ∃ pz : Int, (x.it.pins : Int) = pz := ⟨_, rfl⟩
      rw [ep] at cc4
      have hz : 0 < pz := by omega
      rw [e0, e1, e2]
      clear h hi hr hok e0 e1 e2 hne hK hx hp hm ep
      go_enter Try.func31, Try.ntmps31
      go_wp2_with (first | (go_at_call 44; refine k.mono ?_; rintro e w' ⟨rfl, h1⟩; obtain rfl := h1.symm))
      go_ret
      exact ⟨rfl, ⟨_, c, D, r, HH.out.1, HH.out.2, rfl⟩, Off.refl _ _ _⟩
    · have e0 : remE (itsD D) n = 0 := by unfold remE; rw [hi]; simp only; rw [if_neg hp]
      have e1 : remL (itsD D) n = Ytfggkkhehaafcaa.rem (itsD D) n := by unfold remL; rw [if_pos e0]
      have e2 : remS s (itsD D) n = relS s x.it.P := by unfold remS; rw [hi]; simp only; rw [if_neg hp]
      have hp0 : x.it.pins = 0 := by omega
      rw [hp0, show ((0 : Nat) : Int) = 0 from rfl] at cc4
      have hits := h.its x (List.mem_of_getElem? hK)
      have hpl := hok.pageLen hm
      have hpl' := hits.2.len
      have k61 := fun m => refRelease_call (hr.drewN m) hok.good (by omega) x.sp.a x.sp.n x.sp.c x.it.P (fun w' o => (((h.drewN m).its x (List.mem_of_getElem? hK)).2.off o rfl).reads) (by omega)
      have key : Hid (∀ W1, (∃ r', RefAt B W1 p g (relS s x.it.P) r') → Off B TR (w.drewN 1) W1 → (W1.cell? ⟨y, 0, none⟩ = some (.pointer (some ⟨p, 0, none⟩)) ∧ W1.cell? ⟨y, 1, none⟩ = some (.slice (some ⟨gg, 0, none⟩) D.length c) ∧ W1.cell? ⟨gg, K * 5 + 2, none⟩ = some (.slice x.sp.a x.sp.n x.sp.c)) ∧ Calls Try.prog 62 #[.pointer (some ⟨y, 0, none⟩), .int .i64 (K : Int)] W1 fun e w' => e = .returned (.tuple #[]) ∧ (∃ a' c' D' r', DsAt B w' y p a' c' D' ∧ RefAt B w' p g (relS s x.it.P) r' ∧ itsD D' = Ytfggkkhehaafcaa.rem (itsD D) n) ∧ Off B TZ w w') := hidden_ (by
        rintro W1 ⟨r', hr1⟩ o1
        have h1 := (h.drewN 1).off o1 rfl rfl rfl rfl
        obtain ⟨g1, e1', _, _, _, _, _, q1, q2, q3, q4⟩ := h1.some_ hK
        obtain rfl : gg = g1 := by cases e1'; rfl
        refine ⟨⟨h1.c0, h1.c1, q2⟩, (refOut_call h1 (Nat.le_trans hB o1.size) hK hl).mono ?_⟩
        rintro e w' ⟨rfl, ⟨a', c', hD, _⟩, o2⟩
        have o2' : Off B (fun t => t == 36) W1 w' := ⟨o2.os, o2.tape, o2.output, o2.size, fun k hk hc => o2.block k hk (hc.imp id fun q => ⟨fun h => h.elim, q⟩)⟩
        exact ⟨rfl, ⟨a', c', _, r', hD, hr1.off o2' rfl rfl rfl, by rw [itsD_out hok.nd hK, hx]⟩, ((show Off B TR w W1 from ⟨o1.os, o1.tape, o1.output, o1.size, o1.block⟩).widen tz_tr).trans (o2'.widen tz_36)⟩)
      obtain ⟨E, eE⟩ : ∃ E, relE s x.it.P = E := ⟨_, rfl⟩
      obtain ⟨pa, pn, pc, es⟩ : ∃ pa pn pc, x.sp = ⟨pa, pn, pc⟩ := ⟨_, _, _, rfl⟩
      simp only [eE] at k61
      simp only [es] at k61 key cc2
      rw [e0, e1, e2]
      clear h hi hr hok e0 e1 e2 hne hK hx hp hp0 hm hits hpl hpl' es eE cc1
      go_enter Try.func31, Try.ntmps31
      go_wp2_with (first | (go_at_call 44; refine k.mono ?_; rintro e w' ⟨rfl, h1⟩; obtain rfl := h1.symm))
      go_region_held3 (fun W => W.cell? ⟨y, 0, none⟩ = some (.pointer (some ⟨p, 0, none⟩)) ∧ W.cell? ⟨y, 1, none⟩ = some (.slice (some ⟨gg, 0, none⟩) D.length c) ∧ W.cell? ⟨gg, K * 5 + 2, none⟩ = some (.slice pa pn pc)) (first | assumption | (exact ⟨c0, c1, cc2⟩) | exact d35) (first
        | (go_at_call 61; refine (k61 1).mono ?_; rintro e V1 ⟨rfl, hr1, o1⟩; obtain ⟨d35, k62⟩ := key.out V1 hr1 o1; clear hr1 o1))
      all_goals
        go_wp2_with (first
          | (go_at_call 62; refine k62.mono ?_; rintro e V2 ⟨rfl, h3, o3⟩; have H3 := hidden_ (And.intro h3 o3); clear k62 h3 o3))
        go_ret
        exact ⟨rfl, H3.out.1, H3.out.2⟩
end

/- The document's shelf: one more. -/
section
open Go.ChangeShapes Go.WideShapes Go.ChangeAt Go.RowKit
set_option linter.unusedVariables false
set_option linter.unusedSimpArgs false

/-- one more behind the row -/
theorem DsAt.more {B : Nat} {w : World} {y p : Nat} {a : Option Addr} {c : Nat} {D : List DI} (h : DsAt B w y p a c D) (hB : B ≤ w.heap.size) (hl : D.length ≤ 1000) (x : DI) (hx : RowB B w x.sw.a x.sw.n x.sw.c x.it.W ∧ RowI B w x.sp.a x.sp.n x.sp.c x.it.P) :
    ∃ a' c' W, (Builtin.append_ #[34, 34] 34 #[.slice a D.length c, .slice (some ⟨w.heap.size, 0, none⟩) 1 1]).run Try.prog (w.alloc (.cells x.cells.toArray 82)) = .ok (.slice a' (D ++ [x]).length c') W ∧ (w.alloc (.cells x.cells.toArray 82)).cell? ⟨y, 1, none⟩ = some (.slice a D.length c) ∧ W.cell? ⟨y, 1, none⟩ = some (.slice a D.length c) ∧
      (Instr.storeAt 34 (.pointer (some ⟨y, 1, none⟩)) (.slice a' (D ++ [x]).length c')).run Try.prog W = .ok () (W.setCell ⟨y, 1, none⟩ (.slice a' (D ++ [x]).length c')) ∧ DsAt B (W.setCell ⟨y, 1, none⟩ (.slice a' (D ++ [x]).length c')) y p a' c' (D ++ [x]) ∧ OffS B (fun t => t == 36) (blkOf a) w (W.setCell ⟨y, 1, none⟩ (.slice a' (D ++ [x]).length c')) := by
  have b1 := below_new (Below.refl w.heap.size w) (.cells x.cells.toArray 82)
  have h1 := h.below b1
  have hcell : ∀ j u, (cellsD [x])[j]? = some u → (w.alloc (.cells x.cells.toArray 82)).cell? ((⟨w.heap.size, 0, none⟩ : Addr).add j) = some u := fun j u hj => by
    have hj' : x.cells[j]? = some u := by rw [← hj]; simp [cellsD]
    have hj5 : j < 5 := by have := (List.getElem?_eq_some_iff.1 hj').1; rw [cells5] at this; exact this
    have e : ((⟨w.heap.size, 0, none⟩ : Addr).add j) = ⟨w.heap.size, j, none⟩ := by (simp [Addr.add]; intro h; exact h.symm)
    rw [e]
    unfold World.cell?
    rw [show (⟨w.heap.size, j, none⟩ : Addr).block = w.heap.size from rfl, heap_alloc_new]
    simpa using hj'
  obtain ⟨a', c', W, x11, own, _, o⟩ := run_append5 (E := [x]) h1.own (Nat.le_trans hB b1.size) ⟨w.heap.size, 0, none⟩ 1 1 rfl hcell (by omega) (by omega) 34
  have hlen : D.length + 1 = (D ++ [x]).length := by simp
  rw [hlen] at x11 own
  have nb : ∀ {t k m}, Row t (w.alloc (.cells x.cells.toArray 82)) k m → t ≠ 82 → ¬ blkOf a k := fun {t k m} r ht hb => by
    obtain ⟨_, m', r'⟩ := own_blk h1.own hb
    exact r.ne r' ht rfl
  have kk : ∀ {u : DI}, RowB B w u.sw.a u.sw.n u.sw.c u.it.W ∧ RowI B w u.sp.a u.sp.n u.sp.c u.it.P → RowB B W u.sw.a u.sw.n u.sw.c u.it.W ∧ RowI B W u.sp.a u.sp.n u.sp.c u.it.P := fun {u} hu => by
    have q1 : RowB B (w.alloc (.cells x.cells.toArray 82)) u.sw.a u.sw.n u.sw.c u.it.W := hu.1.off (T := fun _ => false) (B' := 0) (Off.of_below b1) rfl
    have q2 : RowI B (w.alloc (.cells x.cells.toArray 82)) u.sp.a u.sp.n u.sp.c u.it.P := hu.2.off (T := fun _ => false) (B' := 0) (Off.of_below b1) rfl
    refine ⟨q1.keep fun k hk => ?_, ⟨q2.len, own_keep q2.own fun k hk => ?_, q2.wf⟩⟩
    · obtain ⟨_, m', r'⟩ := own_blk q1.own hk
      exact o.row r' rfl (nb r' (by decide))
    · obtain ⟨_, m', r'⟩ := own_blk q2.own hk
      exact o.row r' rfl (nb r' (by decide))
  obtain ⟨hD, hst, hoff⟩ := h1.row o own (fun u hu => by
    rcases List.mem_append.1 hu with q | q
    · exact kk (h.its u q)
    · rw [List.mem_singleton.1 q]; exact kk hx)
  exact ⟨a', c', W, x11, h1.c1, (World.cell?_of_block (w := w.alloc (.cells x.cells.toArray 82)) (a := ⟨y, 1, none⟩) (o.row h1.top rfl (nb h1.top (by decide)))).trans h1.c1, hst, hD, (OffS.of_below b1).trans hoff (fun _ h => .inl h)⟩
theorem run_field36' (y f : Nat) (hf : f < 2) : ∀ w, (Instr.fieldAt 36 (.pointer (some ⟨y, 0, none⟩)) f).run Try.prog w = .ok (.pointer (some ⟨y, f, none⟩)) w := run_field36 y f hf
theorem run_item (n : ByteArray) (v : SL) (W : List Int) (w : World) : (Instr.build 82 #[(0, .string n), (1, .slice v.a v.n v.c)]).run Try.prog w = .ok (.agg (DI.cells ⟨⟨n, W, [], false, 0⟩, v, ⟨none, 0, 0⟩⟩).toArray) w := by
  unfold DI.cells
  go_simp
theorem run_build37' (w : World) : (Instr.buildSlice 37 0 #[]).run Try.prog w = .ok (.slice (some ⟨w.heap.size, 0, none⟩) 0 0) (w.alloc (.cells #[] 59)) := by go_simp
set_option maxRecDepth 20000 in
theorem refPut14_call {B : Nat} {w : World} {y p : Nat} {a : Option Addr} {c : Nat} {D : List DI} (h : DsAt B w y p a c D) (hB : B ≤ w.heap.size) (hl : D.length ≤ 1000) (n : ByteArray) (hn : n.size ≤ maxLen) (za : Option Addr) (zn zc : Nat) (Z : List Int) (hZ : Reads .i8 w za zn Z) (hzn : zn ≤ 2000) :
    Calls Try.prog 30 #[.pointer (some ⟨y, 0, none⟩), .string n, .slice za zn zc] w fun e w' => e = .returned (.int .i64 (putE (itsD D) n)) ∧ (∃ a' c' D', DsAt B w' y p a' c' D' ∧ itsD D' = putL (itsD D) n Z) ∧ OffS B (fun t => t == 36) (blkOf a) w w' := by
  have hsm : n.size ≤ 9223372036854775807 := hn
  by_cases hs : n.size < 1 ∨ 16 < n.size
  · have e0 : putE (itsD D) n = 20 := by unfold putE; rw [if_pos hs]
    have e1 : putL (itsD D) n Z = itsD D := by unfold putL; rw [if_neg (by rw [e0]; decide)]
    have HH := hidden_ h
    rw [e0, e1]
    clear h e0 e1
    by_cases h1 : n.size < 1
    · have h1' : ((n.size : Nat) : Int) < 1 := by omega
      go_enter Try.func30, Try.ntmps30
      go_wp2
      go_ret
      exact ⟨rfl, ⟨a, c, D, HH.out, rfl⟩, OffS.refl _ _ _ _⟩
    · have h1' : ¬ ((n.size : Nat) : Int) < 1 := by omega
      have h2' : (16 : Int) < ((n.size : Nat) : Int) := by omega
      go_enter Try.func30, Try.ntmps30
      go_wp2
      go_ret
      exact ⟨rfl, ⟨a, c, D, HH.out, rfl⟩, OffS.refl _ _ _ _⟩
  · have h1' : ¬ ((n.size : Nat) : Int) < 1 := by omega
    have h2' : ¬ (16 : Int) < ((n.size : Nat) : Int) := by omega
    cases hi : look (itsD D) n with
    | some it =>
      have e0 : putE (itsD D) n = 26 := by unfold putE; rw [if_neg hs, hi]
      have e1 : putL (itsD D) n Z = itsD D := by unfold putL; rw [if_neg (by rw [e0]; decide)]
      obtain ⟨K, x, hK, rfl, hx, hKl, hne⟩ := look_at hi
      have k := at_yes h n K x hK hx hne (by omega)
      have HH := hidden_ h
      rw [e0, e1]
      have hK0 : (0 : Int) ≤ (K : Int) := by omega
      clear h e0 e1 hi hK hx hne
      go_enter Try.func30, Try.ntmps30
      go_wp2_with (first | (go_at_call 44; refine k.mono ?_; rintro e w' ⟨rfl, h1⟩; obtain rfl := h1.symm))
      go_ret
      exact ⟨rfl, ⟨a, c, D, HH.out, rfl⟩, OffS.refl _ _ _ _⟩
    | none =>
      have e0 : putE (itsD D) n = 0 := by unfold putE; rw [if_neg hs, hi]
      have e1 : putL (itsD D) n Z = itsD D ++ [⟨n, Z, [], false, 0⟩] := by unfold putL; rw [if_pos e0]
      have k := at_no h n (look_not hi) (by omega)
      obtain ⟨va, vc, W2, x8, vrow, b2⟩ := run_copyB w.drew 37 za zn zc Z (hZ.drewN 1) (by omega)
      have b2' : Below w.heap.size w W2 := ⟨b2.os, b2.tape, b2.output, b2.size, b2.block⟩
      have b1' : Below w.heap.size w (w.drew.alloc (.cells #[] 59)) := below_new (below_drew (Below.refl _ _) ⟨1, rfl⟩) _
      obtain ⟨x, ex⟩ : ∃ x : DI, x = ⟨⟨n, Z, [], false, 0⟩, ⟨va, zn, vc⟩, ⟨none, 0, 0⟩⟩ := ⟨_, rfl⟩
      have h2 := h.below b2'
      obtain ⟨da, dc, W4, x11, f3, f4, hst, hD, hoff⟩ := h2.more (Nat.le_trans hB b2'.size) hl x (by rw [ex]; exact ⟨vrow.mono hB, RowI.nil _ _⟩)
      have hits : itsD (D ++ [x]) = putL (itsD D) n Z := by rw [e1, ex]; simp [itsD]
      have hoff' : OffS B (fun t => t == 36) (blkOf a) w (W4.setCell ⟨y, 1, none⟩ (.slice da (D ++ [x]).length dc)) := (OffS.of_below b2').trans hoff (fun _ h => .inl h)
      have hItem := run_item n ⟨va, zn, vc⟩ Z
      rw [← ex] at hItem
      have hlen : (D ++ [x]).length = D.length + 1 := by simp
      have hD' := hD
      rw [hlen] at hD' hoff'
      rw [e0]
      clear hi e1 ex
      go_enter Try.func30, Try.ntmps30
      go_wp2_with (first | (go_at_call 44; refine k.mono ?_; rintro e w' ⟨rfl, h1⟩; obtain rfl := h1.symm))
      refine du_region y w.heap.size n W2.heap.size (.agg x.cells.toArray) a D.length c za zn zc va zn vc da _ dc _ W2 _ W4 _ (fun W => W.cell? ⟨y, 1, none⟩ = some (.slice a D.length c)) (by kernel_rfl) rfl ⟨_, rfl, rfl, rfl, rfl, by kernel_rfl⟩ ⟨_, rfl, rfl, rfl, rfl, by kernel_rfl⟩ ⟨_, rfl, rfl, rfl, rfl, by kernel_rfl⟩ ⟨_, rfl, rfl, rfl, rfl, by kernel_rfl⟩ ⟨_, rfl, rfl, rfl, rfl, by kernel_rfl⟩ ⟨_, rfl, rfl, rfl, rfl, by kernel_rfl⟩ ⟨_, rfl, rfl, rfl, rfl, by kernel_rfl⟩ ⟨_, rfl, rfl, rfl, rfl, by kernel_rfl⟩ ⟨_, rfl, rfl, rfl, rfl, by kernel_rfl⟩ ⟨_, rfl, rfl, rfl, rfl, by kernel_rfl⟩ ⟨_, rfl, rfl, rfl, rfl, by kernel_rfl⟩ ⟨_, rfl, rfl, rfl, rfl, by kernel_rfl⟩ ⟨_, rfl, rfl, rfl, rfl, by kernel_rfl⟩ ⟨_, rfl, rfl, rfl, rfl, by kernel_rfl⟩ ⟨_, rfl, rfl, rfl, rfl, by kernel_rfl⟩ 37 (fun o h => by cases h; rfl) 34 (fun o h => by cases h; rfl) h.c1 (h.below b1').c1 h2.c1 f3 f4 (run_field36 y 1 (by decide)) (fun W hW => run_load34 hW) (run_build37' _) x8 hItem (run_build34v x W2) x11 (run_field36 y 1 (by decide)) hst rfl rfl rfl (Nat.le_of_ble_eq_true rfl) ?_
      intro A hs' hd hkp hval
      have ep := frame_puts [21, 22, 23, 24, 25, 26, 27, 28, 29, 30, 31, 32, 33, 34] hs' hd (fun s h => hkp s (fun i hi e => h (by
        rcases (show i = 0 ∨ i = 1 ∨ i = 2 ∨ i = 3 ∨ i = 4 ∨ i = 5 ∨ i = 6 ∨ i = 7 ∨ i = 8 ∨ i = 9 ∨ i = 10 ∨ i = 11 ∨ i = 12 ∨ i = 13 ∨ i = 14 by omega) with rfl | rfl | rfl | rfl | rfl | rfl | rfl | rfl | rfl | rfl | rfl | rfl | rfl | rfl | rfl <;> (simp only [duD, Option.some.injEq, reduceCtorEq] at e <;> (subst e; simp)))))
      simp only [List.foldl] at ep
      generalize A.tmps.getD 21 undef = g21 at ep
      generalize A.tmps.getD 22 undef = g22 at ep
      generalize A.tmps.getD 23 undef = g23 at ep
      generalize A.tmps.getD 24 undef = g24 at ep
      generalize A.tmps.getD 25 undef = g25 at ep
      generalize A.tmps.getD 26 undef = g26 at ep
      generalize A.tmps.getD 27 undef = g27 at ep
      generalize A.tmps.getD 28 undef = g28 at ep
      generalize A.tmps.getD 29 undef = g29 at ep
      generalize A.tmps.getD 30 undef = g30 at ep
      generalize A.tmps.getD 31 undef = g31 at ep
      generalize A.tmps.getD 32 undef = g32 at ep
      generalize A.tmps.getD 33 undef = g33 at ep
      generalize A.tmps.getD 34 undef = g34 at ep
      simp only [Act.put, List.setIfInBounds_toArray, List.set_cons_succ, List.set_cons_zero] at ep
      subst ep
      go_wp2
      go_ret
      exact ⟨rfl, ⟨da, dc, _, hD', hits⟩, hoff'⟩
end

end Go.Proofs.Ytfggkkhehaafcaa
