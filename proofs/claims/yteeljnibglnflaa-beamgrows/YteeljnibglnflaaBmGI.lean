/- What holds between two rounds of the loop in Grow. -/
import Derived.Test.YteeljnibglnflaaRows
import Derived.Test.YteeljnibglnflaaView
import Derived.Test.YteeljnibglnflaaOwn
import Derived.Test.YteeljnibglnflaaSat
import Derived.Test.YteeljnibglnflaaBmZ
import Derived.Test.YteeljnibglnflaaBmAt
import Derived.Test.YteeljnibglnflaaBmPre
import Derived.Test.YteeljnibglnflaaBmFits
import Derived.Test.YteeljnibglnflaaBmWhole
import Derived.Test.YteeljnibglnflaaBmCd
import Derived.Test.YteeljnibglnflaaBmCand
import Derived.Test.YteeljnibglnflaaGMean
import Derived.Test.YteeljnibglnflaaGInvIn
import Derived.Test.YteeljnibglnflaaSoft
import Derived.WalkKit
import Derived.ProofKit
import Derived.OpenShut
import Derived.WalkLawsBesides
import Derived.Below
import Derived.Deep.QuietTactic
import Derived.BigQuiet
import Derived.Laws.AppendOwnNone
import Derived.Deep.OwnRows
import Derived.Laws.OwnMore
namespace Go.Proofs.Yteeljnibglnflaa
set_option maxRecDepth 20000
open Go.ChangeShapes Go.WideShapes Go.ChangeAt Go.RowKit
set_option linter.unusedVariables false

def zB (n : Nat) : Obj := .cells (madeCells #[.slice none 0 0, .int .i64 0, .bool false] (n * 3)) 40
def zI (n : Nat) : Obj := .cells (madeCells #[.int .i64 0] n) 3

theorem make27 (n : Nat) (hn : n ≤ 1000) (w : World) : (Instr.makeSlice 27 (.int .i64 (n : Int)) (.int .i64 (n : Int))).run Try.prog w = .ok (.slice (some ⟨w.heap.size, 0, none⟩) n n) (w.alloc (zB n)) := by
  obtain ⟨i, hi, hz, hs, hb⟩ := info_parts info40
  have hr := run_make (P := Try.prog) w 27 40 i _ Try.underlying27 hi hz .i64 .i64 (n : Int) (n : Int) (by omega) (Int.le_refl _) (by rw [hb]; omega) (by omega)
  simp only [Int.toNat_natCast, hs] at hr
  exact hr

theorem make29 (n : Nat) (hn : n ≤ 1000) (w : World) : (Instr.makeSlice 29 (.int .i64 (n : Int)) (.int .i64 (n : Int))).run Try.prog w = .ok (.slice (some ⟨w.heap.size, 0, none⟩) n n) (w.alloc (zI n)) :=
  run_make_row' 29 3 (.int .i64 0) 8 Try.underlying29 info3 rfl .i64 .i64 n (by omega) (by omega) w

/-- what holds between two rounds of Grow's loop -/
structure GI (w0 w : World) (g b1 b2 K Q k : Nat) (A : Nat → Option Addr) (C : Nat → Nat) (L : Nat → Bm) (G : Nat → Cd) (Ar : Nat → Option Addr) (Cr : Nat → Nat) : Prop where
  bel : Below w0.heap.size w0 w
  cd : CdAt w ⟨g, 0, none⟩ K A C L G
  o1 : ∃ cs, w.ownsRow w0.heap.size 40 3 (.slice (some ⟨b1, 0, none⟩) Q Q) Q cs
  o2 : ∃ cs, w.ownsRow w0.heap.size 3 1 (.slice (some ⟨b2, 0, none⟩) Q Q) Q cs
  ne : b1 ≠ b2 ∧ g ≠ b1 ∧ g ≠ b2
  c1 : ∀ r, r < k → w.cell? ⟨b1, r * 3, none⟩ = some (.slice (Ar r) (wholeZ L (G r)).t.length (Cr r)) ∧ w.cell? ⟨b1, r * 3 + 1, none⟩ = some (.int .i64 (G r).s) ∧ w.cell? ⟨b1, r * 3 + 2, none⟩ = some (.bool (G r).f)
  c2 : ∀ r, r < k → w.cell? ⟨b2, r, none⟩ = some (.int .i64 ((G r).p : Nat))
  row : ∀ r, r < k → Reads .i64 w (Ar r) (wholeZ L (G r)).t.length (wholeZ L (G r)).t
  off : ∀ r, r < k → ∀ x, Ar r = some x → x.block ≠ b1 ∧ x.block ≠ b2 ∧ w0.heap.size ≤ x.block
  nil : ∀ r, r < k → (Ar r = none → Cr r = 0) ∧ (wholeZ L (G r)).t.length ≤ Cr r

theorem CdAt.below {w w' : World} {x : Addr} {n : Nat} {A : Nat → Option Addr} {C : Nat → Nat} {L : Nat → Bm} {G : Nat → Cd} (h : CdAt w x n A C L G) (hb : Below w.heap.size w w') : CdAt w' x n A C L G :=
  h.carry fun p v _ hp => (hb.cell (World.block_lt_of_cell? w p hp)).trans hp

theorem below_cell {w w' : World} (hb : Below w.heap.size w w') {p : Addr} {v : Value} (hp : w.cell? p = some v) : w'.cell? p = some v := (hb.cell (World.block_lt_of_cell? w p hp)).trans hp

theorem GI.below {w0 w w' : World} {g b1 b2 K Q k : Nat} {A : Nat → Option Addr} {C : Nat → Nat} {L : Nat → Bm} {G : Nat → Cd} {Ar : Nat → Option Addr} {Cr : Nat → Nat} (h : GI w0 w g b1 b2 K Q k A C L G Ar Cr) (hb : Below w.heap.size w w') : GI w0 w' g b1 b2 K Q k A C L G Ar Cr := by
  obtain ⟨cs, o1⟩ := h.o1
  obtain ⟨ct, o2⟩ := h.o2
  exact ⟨below_then h.bel hb, h.cd.below hb, ⟨cs, own_below3 o1 hb⟩, ⟨ct, own_below3 o2 hb⟩, h.ne, fun r hr => ⟨below_cell hb (h.c1 r hr).1, below_cell hb (h.c1 r hr).2.1, below_cell hb (h.c1 r hr).2.2⟩, fun r hr => below_cell hb (h.c2 r hr), fun r hr => (h.row r hr).below hb, h.off, h.nil⟩

theorem reads_set {k : IntKind} {w : World} {a : Option Addr} {n : Nat} {zs : List Int} (h : Reads k w a n zs) (p : Addr) (v : Value) (hp : ∀ x, a = some x → x.block ≠ p.block) : Reads k (w.setCell p v) a n zs :=
  ⟨h.len, h.max, h.wf, h.some_, fun x hx i hi => by
    have hb1 : (x.add i).block = x.block := by simp only [Addr.add]; split <;> rfl
    rw [World.cell?_setCell_other _ _ _ _ (fun e => hp x hx (by rw [← hb1, ← e]))]
    exact h.cell x hx i hi⟩

theorem set_grown (W : World) (p : Addr) (v : Value) : W.grownBy (W.setCell p v) (some p.block) :=
  ⟨rfl, rfl, rfl, by simp, fun k _ hk => heap_setCell_other W p k v (fun e => hk (by simp [e]))⟩

theorem GI.put {w0 w : World} {g b1 b2 K Q k : Nat} {A : Nat → Option Addr} {C : Nat → Nat} {L : Nat → Bm} {G : Nat → Cd} {Ar : Nat → Option Addr} {Cr : Nat → Nat} (h : GI w0 w g b1 b2 K Q k A C L G Ar Cr) (hk : k < Q) {a : Option Addr} {c : Nat}
    (hr : Reads .i64 w a (wholeZ L (G k)).t.length (wholeZ L (G k)).t) (ho : ∀ x, a = some x → x.block ≠ b1 ∧ x.block ≠ b2 ∧ w0.heap.size ≤ x.block) (hn : (a = none → c = 0) ∧ (wholeZ L (G k)).t.length ≤ c) :
    GI w0 ((((w.setCell ⟨b1, k * 3, none⟩ (.slice a (wholeZ L (G k)).t.length c)).setCell ⟨b1, k * 3 + 1, none⟩ (.int .i64 (G k).s)).setCell ⟨b1, k * 3 + 2, none⟩ (.bool (G k).f)).setCell ⟨b2, k, none⟩ (.int .i64 ((G k).p : Nat))) g b1 b2 K Q (k + 1) A C L G (fun r => if r = k then a else Ar r) (fun r => if r = k then c else Cr r) := by
  obtain ⟨cs, o1⟩ := h.o1
  obtain ⟨ct, o2⟩ := h.o2
  have l1 := o1.lt b1 rfl
  have l2 := o2.lt b2 rfl
  have hl1 := o1.1
  have hl2 := o2.1
  have h12 := h.ne.1
  have s1 := (o1.stored (k * 3) (.slice a (wholeZ L (G k)).t.length c)).1
  have s2 := (s1.stored (k * 3 + 1) (.int .i64 (G k).s)).1
  have s3 := (s2.stored (k * 3 + 2) (.bool (G k).f)).1
  have oth : ∀ p v, p.block ≠ b1 → p.block ≠ b2 → w.cell? p = some v → ((((w.setCell ⟨b1, k * 3, none⟩ (.slice a (wholeZ L (G k)).t.length c)).setCell ⟨b1, k * 3 + 1, none⟩ (.int .i64 (G k).s)).setCell ⟨b1, k * 3 + 2, none⟩ (.bool (G k).f)).setCell ⟨b2, k, none⟩ (.int .i64 ((G k).p : Nat))).cell? p = some v := fun p v n1 n2 hp => by
    rw [World.cell?_setCell_other _ _ _ _ (fun e => n2 (by rw [← e])), World.cell?_setCell_other _ _ _ _ (fun e => n1 (by rw [← e])), World.cell?_setCell_other _ _ _ _ (fun e => n1 (by rw [← e])), World.cell?_setCell_other _ _ _ _ (fun e => n1 (by rw [← e]))]
    exact hp
  have kp2 : ∀ {W : World} {p : Addr} {v : Value} {ct : List Value}, p.block = b1 → W.ownsRow w0.heap.size 3 1 (.slice (some ⟨b2, 0, none⟩) Q Q) Q ct → (W.setCell p v).ownsRow w0.heap.size 3 1 (.slice (some ⟨b2, 0, none⟩) Q Q) Q ct := fun {W p v ct} hp ho => by
    refine ho.kept (row := some b1) (hp ▸ set_grown W p v) (.inr ?_)
    show some b2 ≠ some b1
    intro e
    exact h12 (Option.some.inj e).symm
  have t3 := kp2 (p := ⟨b1, k * 3 + 2, none⟩) (v := .bool (G k).f) rfl (kp2 (p := ⟨b1, k * 3 + 1, none⟩) (v := .int .i64 (G k).s) rfl (kp2 (p := ⟨b1, k * 3, none⟩) (v := .slice a (wholeZ L (G k)).t.length c) rfl o2))
  have q1 : ∀ j, j < Q * 3 → ∀ u, (((cs.set (k * 3) (.slice a (wholeZ L (G k)).t.length c)).set (k * 3 + 1) (.int .i64 (G k).s)).set (k * 3 + 2) (.bool (G k).f))[j]? = some u → ((((w.setCell ⟨b1, k * 3, none⟩ (.slice a (wholeZ L (G k)).t.length c)).setCell ⟨b1, k * 3 + 1, none⟩ (.int .i64 (G k).s)).setCell ⟨b1, k * 3 + 2, none⟩ (.bool (G k).f)).setCell ⟨b2, k, none⟩ (.int .i64 ((G k).p : Nat))).cell? ⟨b1, j, none⟩ = some u := fun j hj u hu => by
    rw [World.cell?_setCell_other _ _ _ _ (fun e => h12 (by have := congrArg Addr.block e; exact this.symm)), s3.cellAt j hj]
    exact hu
  have q2 : ∀ j, j < Q → ∀ u, (ct.set k (.int .i64 ((G k).p : Nat)))[j]? = some u → ((((w.setCell ⟨b1, k * 3, none⟩ (.slice a (wholeZ L (G k)).t.length c)).setCell ⟨b1, k * 3 + 1, none⟩ (.int .i64 (G k).s)).setCell ⟨b1, k * 3 + 2, none⟩ (.bool (G k).f)).setCell ⟨b2, k, none⟩ (.int .i64 ((G k).p : Nat))).cell? ⟨b2, j, none⟩ = some u := fun j hj u hu => by
    rw [(t3.stored k (.int .i64 ((G k).p : Nat))).1.cellAt j (by omega)]
    exact hu
  have old1 : ∀ j, j < Q * 3 → ∀ u, w.cell? ⟨b1, j, none⟩ = some u → j ≠ k * 3 → j ≠ k * 3 + 1 → j ≠ k * 3 + 2 → (((cs.set (k * 3) (.slice a (wholeZ L (G k)).t.length c)).set (k * 3 + 1) (.int .i64 (G k).s)).set (k * 3 + 2) (.bool (G k).f))[j]? = some u := fun j hj u hu n1 n2 n3 => by
    rw [List.getElem?_set_ne (by omega), List.getElem?_set_ne (by omega), List.getElem?_set_ne (by omega), ← o1.cellAt j hj]
    exact hu
  have f1 := s3.kept (row := some b2) (set_grown _ ⟨b2, k, none⟩ (.int .i64 ((G k).p : Nat))) (.inr (by
    show some b1 ≠ some b2
    intro e
    exact h12 (Option.some.inj e)))
  refine ⟨?_, ?_, ⟨_, f1⟩, ⟨_, (t3.stored k _).1⟩, h.ne, fun r hr' => ?_, fun r hr' => ?_, fun r hr' => ?_, fun r hr' x hx => ?_, fun r hr' => ?_⟩
  · exact (((h.bel.setCell l1.1 _).setCell l1.1 _).setCell l1.1 _).setCell l2.1 _
  · exact h.cd.carry fun p v hp hv => oth p v (by rw [hp]; exact h.ne.2.1) (by rw [hp]; exact h.ne.2.2) hv
  · by_cases e : r = k
    · subst e
      simp only [if_true]
      refine ⟨q1 _ (by omega) _ ?_, q1 _ (by omega) _ ?_, q1 _ (by omega) _ ?_⟩
      · rw [List.getElem?_set_ne (by omega), List.getElem?_set_ne (by omega), List.getElem?_set_self (by omega)]
      · rw [List.getElem?_set_ne (by omega), List.getElem?_set_self (by rw [List.length_set]; omega)]
      · rw [List.getElem?_set_self (by rw [List.length_set, List.length_set]; omega)]
    · simp only [if_neg e]
      obtain ⟨d0, d1, d2⟩ := h.c1 r (by omega)
      exact ⟨q1 _ (by omega) _ (old1 _ (by omega) _ d0 (by omega) (by omega) (by omega)), q1 _ (by omega) _ (old1 _ (by omega) _ d1 (by omega) (by omega) (by omega)), q1 _ (by omega) _ (old1 _ (by omega) _ d2 (by omega) (by omega) (by omega))⟩
  · refine q2 r (by omega) _ ?_
    by_cases e : r = k
    · subst e
      rw [List.getElem?_set_self (by omega)]
    · rw [List.getElem?_set_ne (by omega), ← o2.cellAt r (by omega)]
      exact h.c2 r (by omega)
  · have key : ∀ (a' : Option Addr) (zs : List Int), Reads .i64 w a' zs.length zs → (∀ x, a' = some x → x.block ≠ b1 ∧ x.block ≠ b2 ∧ w0.heap.size ≤ x.block) → Reads .i64 ((((w.setCell ⟨b1, k * 3, none⟩ (.slice a (wholeZ L (G k)).t.length c)).setCell ⟨b1, k * 3 + 1, none⟩ (.int .i64 (G k).s)).setCell ⟨b1, k * 3 + 2, none⟩ (.bool (G k).f)).setCell ⟨b2, k, none⟩ (.int .i64 ((G k).p : Nat))) a' zs.length zs := fun a' zs hz hx =>
      reads_set (reads_set (reads_set (reads_set hz _ _ fun x e => (hx x e).1) _ _ fun x e => (hx x e).1) _ _ fun x e => (hx x e).1) _ _ fun x e => (hx x e).2.1
    by_cases e : r = k
    · subst e
      simp only [if_true]
      exact key _ _ hr ho
    · simp only [if_neg e]
      exact key _ _ (h.row r (by omega)) (h.off r (by omega))
  · by_cases e : r = k
    · subst e
      simp only [if_true] at hx
      exact ho x hx
    · simp only [if_neg e] at hx
      exact h.off r (by omega) x hx
  · by_cases e : r = k
    · subst e
      simp only [if_true]
      exact hn
    · simp only [if_neg e]
      exact h.nil r (by omega)

theorem GI.start1 {w W : World} {g K Q : Nat} {A : Nat → Option Addr} {C : Nat → Nat} {L : Nat → Bm} {G : Nat → Cd} (hb : Below w.heap.size w W) (cd : CdAt W ⟨g, 0, none⟩ K A C L G) (hg : g < W.heap.size) (hQ : Q ≤ 1000) :
    GI w ((W.alloc (zB Q)).alloc (zI Q)).drew g W.heap.size (W.heap.size + 1) K Q 0 A C L G (fun _ => none) (fun _ => 0) := by
  have o1 := (World.ownsRow_lit W (base := w.heap.size) (e := 40) (size := 3) (madeCells #[.slice none 0 0, .int .i64 0, .bool false] (Q * 3)) Q hb.size (by unfold maxLen; omega) (size_madeCells _ _)).alloc (zI Q)
  have o2 := World.ownsRow_lit (W.alloc (zB Q)) (base := w.heap.size) (e := 3) (size := 1) (madeCells #[.int .i64 0] Q) Q (by have := hb.size; simp; omega) (by unfold maxLen; omega) (by rw [size_madeCells]; omega)
  have s1 : (W.alloc (zB Q)).heap.size = W.heap.size + 1 := by simp
  rw [s1] at o2
  have b2 := below_new (below_new (Below.refl W.heap.size W) (zB Q)) (zI Q)
  exact (⟨below_then hb b2, cd.below b2, ⟨_, o1⟩, ⟨_, o2⟩, ⟨by omega, by omega, by omega⟩, fun r hr => by omega, fun r hr => by omega, fun r hr => by omega, fun r hr => by omega, fun r hr => by omega⟩ : GI w ((W.alloc (zB Q)).alloc (zI Q)) g W.heap.size (W.heap.size + 1) K Q 0 A C L G (fun _ => none) (fun _ => 0)).below (below_drew (Below.refl _ _) ⟨1, rfl⟩)

theorem GI.start2 {w W : World} {g K Q : Nat} {A : Nat → Option Addr} {C : Nat → Nat} {L : Nat → Bm} {G : Nat → Cd} (hb : Below w.heap.size w W) (cd : CdAt W ⟨g, 0, none⟩ K A C L G) (hg : g < W.heap.size) (hQ : Q ≤ 1000) :
    GI w ((W.alloc (zI Q)).alloc (zB Q)).drew g (W.heap.size + 1) W.heap.size K Q 0 A C L G (fun _ => none) (fun _ => 0) := by
  have o2 := (World.ownsRow_lit W (base := w.heap.size) (e := 3) (size := 1) (madeCells #[.int .i64 0] Q) Q hb.size (by unfold maxLen; omega) (by rw [size_madeCells]; omega)).alloc (zB Q)
  have o1 := World.ownsRow_lit (W.alloc (zI Q)) (base := w.heap.size) (e := 40) (size := 3) (madeCells #[.slice none 0 0, .int .i64 0, .bool false] (Q * 3)) Q (by have := hb.size; simp; omega) (by unfold maxLen; omega) (size_madeCells _ _)
  have s1 : (W.alloc (zI Q)).heap.size = W.heap.size + 1 := by simp
  rw [s1] at o1
  have b2 := below_new (below_new (Below.refl W.heap.size W) (zI Q)) (zB Q)
  exact (⟨below_then hb b2, cd.below b2, ⟨_, o1⟩, ⟨_, o2⟩, ⟨by omega, by omega, by omega⟩, fun r hr => by omega, fun r hr => by omega, fun r hr => by omega, fun r hr => by omega, fun r hr => by omega⟩ : GI w ((W.alloc (zI Q)).alloc (zB Q)) g (W.heap.size + 1) W.heap.size K Q 0 A C L G (fun _ => none) (fun _ => 0)).below (below_drew (Below.refl _ _) ⟨1, rfl⟩)

end Go.Proofs.Yteeljnibglnflaa
