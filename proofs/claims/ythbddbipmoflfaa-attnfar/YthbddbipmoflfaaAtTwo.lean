/- Two rows of rows, appended to side by side: what holds between the operations. -/
import Derived.Test.YthbddbipmoflfaaRows
import Derived.Test.YthbddbipmoflfaaView
import Derived.Test.YthbddbipmoflfaaOwn
import Derived.Test.YthbddbipmoflfaaWhere
import Derived.Test.YthbddbipmoflfaaWorks
import Derived.Test.YthbddbipmoflfaaSoft
import Derived.Test.YthbddbipmoflfaaMean
import Derived.Test.YthbddbipmoflfaaGrids
import Derived.Test.YthbddbipmoflfaaInvIn
import Derived.Test.YthbddbipmoflfaaAtReg
import Derived.WalkKit
import Derived.ProofKit
import Derived.OpenShut
import Derived.Below
import Derived.WalkLawsBesides
import Derived.Deep.QuietTactic
import Derived.BigQuiet
namespace Go.Proofs.Ythbddbipmoflfaa
open Go.ChangeShapes Go.WideShapes Go.ChangeAt Go.RowKit
set_option linter.unusedVariables false
set_option linter.unusedSimpArgs false

theorem run_build23 (a : Option Addr) (n c : Nat) (w : World) : (Instr.buildSlice 23 1 #[(0, .slice a n c)]).run Try.prog w = .ok (.slice (some ⟨w.heap.size, 0, none⟩) 1 1) (w.alloc (.cells #[.slice a n c] 22)) := by go_simp
theorem run_ix23 (x : Addr) (n c k : Nat) (hk : k < n) (w : World) : (Instr.indexAt 23 (.slice (some x) n c) (.int .i64 k)).run Try.prog w = .ok (.pointer (some (x.add k))) w := by go_simp
theorem run_load22 {w : World} {p : Addr} {a : Option Addr} {n c : Nat} (h : w.cell? p = some (.slice a n c)) : (Instr.loadAt 22 (.pointer (some p))).run Try.prog w = .ok (.slice a n c) w := by go_simp
theorem run_half (n h : Nat) (e : n / 2 = h) (hn : n ≤ 9223372036854775807) (w : World) : (binOp .quo 3 (.int .i64 n) (.int .i64 2)).run Try.prog w = .ok (.int .i64 h) w := by
  have e' : (n : Int) / 2 = (h : Int) := by omega
  have := wrap_in (z := (h : Int)) (by omega) (by omega)
  go_simp
theorem run_front (x : Addr) (n c h : Nat) (h1 : h ≤ c) (w : World) : (Instr.sliceAt 22 (.slice (some x) n c) none (some (.int .i64 h)) none).run Try.prog w = .ok (.slice (some x) h c) w := by
  go_simp
theorem run_back (x : Addr) (n c h d : Nat) (h1 : h < n) (h2 : n ≤ c) (e : n - h = d) (w : World) : (Instr.sliceAt 22 (.slice (some x) n c) (some (.int .i64 h)) none none).run Try.prog w = .ok (.slice (some (x.add h)) d (c - h)) w := by
  have h3 : h ≤ n := by omega
  have h4 : ¬ c = h := by omega
  go_simp

/-- two rows of rows of the call's own, apart -/
structure Two (B : Nat) (w : World) (v1 : Value) (n1 : Nat) (xs1 : List Value) (v2 : Value) (n2 : Nat) (xs2 : List Value) : Prop where
  o1 : w.ownsRow B 22 1 v1 n1 xs1
  o2 : w.ownsRow B 22 1 v2 n2 xs2
  ap : Apart v1 v2

theorem Two.swap {B : Nat} {w : World} {v1 v2 : Value} {n1 n2 : Nat} {xs1 xs2 : List Value} (h : Two B w v1 n1 xs1 v2 n2 xs2) : Two B w v2 n2 xs2 v1 n1 xs1 := ⟨h.o2, h.o1, h.ap.symm⟩

/-- one new cell, in neither row -/
def LitAt (w : World) (q V v1 v2 : Value) : Prop := ∃ g, q = .slice (some ⟨g, 0, none⟩) 1 1 ∧ w.cell? ⟨g, 0, none⟩ = some V ∧ v1.ownBlock ≠ some g ∧ v2.ownBlock ≠ some g

theorem LitAt.swap {w : World} {q V v1 v2 : Value} (h : LitAt w q V v1 v2) : LitAt w q V v2 v1 := by
  obtain ⟨g, h1, h2, h3, h4⟩ := h
  exact ⟨g, h1, h2, h4, h3⟩

/-- what one of the two has come to: A its append, L its new cell, E its slot's assignment; s, t, r their slots -/
def SideR (A L E s t r : Nat) (u : Value) (V v v' : Value) (l : Nat → Bool) (a : Act) (w : World) : Prop :=
  (if l A = true then a.tmps.getD s undef = v else v = u) ∧ (l L = true → LitAt w (a.tmps.getD t undef) V v v') ∧ (a.tmps.getD r undef = if l E = true then v else u)

/-- all blocks but those of the two rows are as they were -/
def Beside (w0 w : World) (u1 u2 : Value) : Prop := w0.heap.size ≤ w.heap.size ∧ ∀ g, g < w0.heap.size → u1.ownBlock ≠ some g → u2.ownBlock ≠ some g → w.heap[g]? = w0.heap[g]?

theorem Beside.swap {w0 w : World} {u1 u2 : Value} (h : Beside w0 w u1 u2) : Beside w0 w u2 u1 := ⟨h.1, fun g hg h1 h2 => h.2 g hg h2 h1⟩

theorem Beside.grown {w0 w w' : World} {u1 u2 : Value} (h : Beside w0 w u1 u2) (hg : w.grownBy w' u1.ownBlock) : Beside w0 w' u1 u2 :=
  ⟨Nat.le_trans h.1 hg.size, fun g h0 h1 h2 => (hg.block g (Nat.lt_of_lt_of_le h0 h.1) (fun e => h1 e.symm)).trans (h.2 g h0 h1 h2)⟩

theorem Beside.alloc {w0 w : World} {u1 u2 : Value} (h : Beside w0 w u1 u2) (o : Obj) : Beside w0 (w.alloc o) u1 u2 :=
  ⟨by show _ ≤ (w.heap.push o).size; simp; have := h.1; omega, fun g h0 h1 h2 => (heap_alloc_old w o (Nat.lt_of_lt_of_le h0 h.1)).trans (h.2 g h0 h1 h2)⟩

theorem Beside.row {w0 w : World} {u1 u2 r : Value} {B n : Nat} {e : TypeId} {xs : List Value} (h : Beside w0 w u1 u2) (ho : w0.ownsRow B e 1 r n xs) (h1 : Apart r u1) (h2 : Apart r u2) : w.ownsRow B e 1 r n xs := by
  refine ⟨ho.1, ?_⟩
  rcases ho.2 with h' | ⟨g, cap, cur, hv, hg, hh, hn⟩
  · exact .inl h'
  · have e : r.ownBlock = some g := by rw [hv]; rfl
    exact .inr ⟨g, cap, cur, hv, hg, by rw [h.2 g (ho.lt g e).2 (fun k => h1 g e k) (fun k => h2 g e k)]; exact hh, hn⟩

theorem Beside.cell {w0 w : World} {u1 u2 v : Value} {p : Addr} (h : Beside w0 w u1 u2) (hp : w0.cell? p = some v) (h1 : u1.ownBlock ≠ some p.block) (h2 : u2.ownBlock ≠ some p.block) : w.cell? p = some v := by
  have := h.2 p.block (World.block_lt_of_cell? w0 p hp) h1 h2
  unfold World.cell? at hp ⊢
  rw [this]
  exact hp

def TwoR (A1 L1 E1 s1 t1 r1 A2 L2 E2 s2 t2 r2 : Nat) (B : Nat) (W0 : World) (u1 : Value) (n1 : Nat) (xs1 : List Value) (V1 : Value) (u2 : Value) (n2 : Nat) (xs2 : List Value) (V2 : Value) (w0 : World) (l : Nat → Bool) (a : Act) (w : World) : Prop :=
  ∃ v1 v2, Below B W0 w ∧ B ≤ w.heap.size ∧ (Beside w0 w u1 u2 ∧ Stays w0 u1 v1 ∧ Stays w0 u2 v2) ∧ Two B w v1 (if l A1 = true then n1 + 1 else n1) (if l A1 = true then xs1 ++ [V1] else xs1) v2 (if l A2 = true then n2 + 1 else n2) (if l A2 = true then xs2 ++ [V2] else xs2) ∧
    SideR A1 L1 E1 s1 t1 r1 u1 V1 v1 v2 l a w ∧ SideR A2 L2 E2 s2 t2 r2 u2 V2 v2 v1 l a w

variable {A1 L1 E1 s1 t1 r1 A2 L2 E2 s2 t2 r2 : Nat} {B : Nat} {W0 : World} {u1 : Value} {n1 : Nat} {xs1 : List Value} {V1 : Value} {u2 : Value} {n2 : Nat} {xs2 : List Value} {V2 : Value} {w0 : World} {l : Nat → Bool} {a : Act} {w : World}

theorem TwoR.swap (h : TwoR A1 L1 E1 s1 t1 r1 A2 L2 E2 s2 t2 r2 B W0 u1 n1 xs1 V1 u2 n2 xs2 V2 w0 l a w) : TwoR A2 L2 E2 s2 t2 r2 A1 L1 E1 s1 t1 r1 B W0 u2 n2 xs2 V2 u1 n1 xs1 V1 w0 l a w := by
  obtain ⟨v1, v2, h1, h2, hq, h3, h4, h5⟩ := h
  exact ⟨v2, v1, h1, h2, ⟨hq.1.swap, hq.2.2, hq.2.1⟩, h3.swap, h5, h4⟩

theorem ne_or {i j : Nat} (h : i ≠ j) : (l j || j == i) = l j := by
  have : (j == i) = false := by simp; omega
  rw [this, Bool.or_false]

theorem same_or {i j : Nat} (h : i = j) : (l j || j == i) = true := by simp [h]

theorem SideR.keep {A L E s t r : Nat} {u V v v' : Value} (h : SideR A L E s t r u V v v' l a w) {i d : Nat} {x : Value} (hd : d < a.tmps.size) (hi : i ≠ A ∧ i ≠ L ∧ i ≠ E) (hs : d ≠ s ∧ d ≠ t ∧ d ≠ r) : SideR A L E s t r u V v v' (fun j => l j || j == i) (a.put (some d) x) w := by
  obtain ⟨h1, h2, h3⟩ := h
  unfold SideR
  simp only [ne_or hi.1, ne_or hi.2.1, ne_or hi.2.2, get_put a d x _ hd, if_neg (Ne.symm hs.1), if_neg (Ne.symm hs.2.1), if_neg (Ne.symm hs.2.2)]
  exact ⟨h1, h2, h3⟩

theorem TwoR.pure (h : TwoR A1 L1 E1 s1 t1 r1 A2 L2 E2 s2 t2 r2 B W0 u1 n1 xs1 V1 u2 n2 xs2 V2 w0 l a w) {i d : Nat} {x : Value} (hd : d < a.tmps.size) (hi : i ≠ A1 ∧ i ≠ L1 ∧ i ≠ E1) (hi' : i ≠ A2 ∧ i ≠ L2 ∧ i ≠ E2) (hs : d ≠ s1 ∧ d ≠ t1 ∧ d ≠ r1) (hs' : d ≠ s2 ∧ d ≠ t2 ∧ d ≠ r2) :
    TwoR A1 L1 E1 s1 t1 r1 A2 L2 E2 s2 t2 r2 B W0 u1 n1 xs1 V1 u2 n2 xs2 V2 w0 (fun j => l j || j == i) (a.put (some d) x) w := by
  obtain ⟨v1, v2, h1, h2, hq, h3, h4, h5⟩ := h
  refine ⟨v1, v2, h1, h2, hq, ?_, h4.keep hd hi hs, h5.keep hd hi' hs'⟩
  simp only [ne_or hi.1, ne_or hi'.1]
  exact h3

/-- a row's slot is assigned what the append gave -/
theorem TwoR.end1 (h : TwoR A1 L1 E1 s1 t1 r1 A2 L2 E2 s2 t2 r2 B W0 u1 n1 xs1 V1 u2 n2 xs2 V2 w0 l a w) (hd : r1 < a.tmps.size) (hA : l A1 = true) (hi : E1 ≠ A1 ∧ E1 ≠ L1) (hi' : E1 ≠ A2 ∧ E1 ≠ L2 ∧ E1 ≠ E2) (hs : r1 ≠ s1 ∧ r1 ≠ t1) (hs' : r1 ≠ s2 ∧ r1 ≠ t2 ∧ r1 ≠ r2) :
    TwoR A1 L1 E1 s1 t1 r1 A2 L2 E2 s2 t2 r2 B W0 u1 n1 xs1 V1 u2 n2 xs2 V2 w0 (fun j => l j || j == E1) (a.put (some r1) (a.tmps.getD s1 undef)) w := by
  obtain ⟨v1, v2, h1, h2, hq, h3, ⟨h4, h5, h6⟩, h7⟩ := h
  refine ⟨v1, v2, h1, h2, hq, ?_, ?_, h7.keep hd hi' hs'⟩
  · simp only [ne_or hi.1, ne_or hi'.1]
    exact h3
  · unfold SideR
    simp only [ne_or hi.1, ne_or hi.2, get_put a r1 _ _ hd, if_neg (Ne.symm hs.1), if_neg (Ne.symm hs.2), beq_self_eq_true, Bool.or_true, if_true]
    rw [if_pos hA] at h4
    exact ⟨by rw [if_pos hA]; exact h4, h5, h4⟩

/-- a new cell is laid -/
theorem TwoR.lit1 (h : TwoR A1 L1 E1 s1 t1 r1 A2 L2 E2 s2 t2 r2 B W0 u1 n1 xs1 V1 u2 n2 xs2 V2 w0 l a w) (hd : t1 < a.tmps.size) (hi : L1 ≠ A1 ∧ L1 ≠ E1) (hi' : L1 ≠ A2 ∧ L1 ≠ L2 ∧ L1 ≠ E2) (hs : t1 ≠ s1 ∧ t1 ≠ r1) (hs' : t1 ≠ s2 ∧ t1 ≠ t2 ∧ t1 ≠ r2) :
    TwoR A1 L1 E1 s1 t1 r1 A2 L2 E2 s2 t2 r2 B W0 u1 n1 xs1 V1 u2 n2 xs2 V2 w0 (fun j => l j || j == L1) (a.put (some t1) (.slice (some ⟨w.heap.size, 0, none⟩) 1 1)) (w.alloc (.cells #[V1] 22)) := by
  obtain ⟨v1, v2, h1, h2, hq, h3, ⟨h4, h5, h6⟩, h7⟩ := h
  have old : ∀ {q V v v'}, LitAt w q V v v' → LitAt (w.alloc (.cells #[V1] 22)) q V v v' := by
    rintro q V v v' ⟨g, g1, g2, g3, g4⟩
    exact ⟨g, g1, by rw [World.cell?_alloc_past _ _ _ (by simpa using World.block_lt_of_cell? w _ g2)]; exact g2, g3, g4⟩
  refine ⟨v1, v2, h1.alloc h2 _, by show B ≤ (w.heap.push _).size; simp; omega, ⟨hq.1.alloc _, hq.2⟩, ?_, ?_, ?_⟩
  · simp only [ne_or hi.1, ne_or hi'.1]
    exact ⟨h3.o1.alloc _, h3.o2.alloc _, h3.ap⟩
  · unfold SideR
    simp only [ne_or hi.1, ne_or hi.2, get_put a t1 _ _ hd, if_neg (Ne.symm hs.1), if_neg (Ne.symm hs.2), beq_self_eq_true, Bool.or_true, if_true]
    refine ⟨h4, fun _ => ⟨w.heap.size, rfl, cell_of_one (heap_alloc_new w _), fun e => ?_, fun e => ?_⟩, h6⟩
    · have := (h3.o1.lt _ e).2; omega
    · have := (h3.o2.lt _ e).2; omega
  · have k := h7.keep (x := .slice (some ⟨w.heap.size, 0, none⟩) 1 1) hd hi' hs'
    exact ⟨k.1, fun hl => old (k.2.1 hl), k.2.2⟩

theorem LitAt.grown {w' : World} {q V v v' u : Value} {n : Nat} {xs : List Value} (h : LitAt w q V v v') (hg : w.grownBy w' v.ownBlock) (hs : Stays w v u) : LitAt w' q V u v' := by
  obtain ⟨g, g1, g2, g3, g4⟩ := h
  refine ⟨g, g1, hg.cell g2 (fun e => g3 e.symm), fun e => ?_, g4⟩
  rcases hs with h | h
  · exact g3 (h ▸ e)
  · have h1 := h g e
    have h2 := World.block_lt_of_cell? w _ g2
    simp at h2
    omega

/-- the new cell is appended to its row -/
theorem TwoR.app1 (h : TwoR A1 L1 E1 s1 t1 r1 A2 L2 E2 s2 t2 r2 B W0 u1 n1 xs1 V1 u2 n2 xs2 V2 w0 l a w) (hd : s1 < a.tmps.size) (hL : l L1 = true) (hA : l A1 = false) (hE : l E1 = false) (hi : A1 ≠ L1 ∧ A1 ≠ E1) (hi' : A1 ≠ A2 ∧ A1 ≠ L2 ∧ A1 ≠ E2) (hs : s1 ≠ t1 ∧ s1 ≠ r1) (hs' : s1 ≠ s2 ∧ s1 ≠ t2 ∧ s1 ≠ r2)
    (hV : V1.oneCell' = true) (hn : (n1 + 1) * 24 ≤ 140737488355328) (ty : TypeId) :
    ∃ g v' w', a.tmps.getD t1 undef = .slice (some ⟨g, 0, none⟩) 1 1 ∧ (Builtin.append_ #[23, 23] ty #[u1, .slice (some ⟨g, 0, none⟩) 1 1]).run Try.prog w = .ok v' w' ∧
      TwoR A1 L1 E1 s1 t1 r1 A2 L2 E2 s2 t2 r2 B W0 u1 n1 xs1 V1 u2 n2 xs2 V2 w0 (fun j => l j || j == A1) (a.put (some s1) v') w' := by
  obtain ⟨j0, hj, hy0, hy1, hy2⟩ := info_parts info22
  obtain ⟨v1, v2, h1, h2, hq, h3, ⟨h4, h5, h6⟩, h7⟩ := h
  rw [if_neg (by rw [hA]; decide)] at h4
  subst h4
  simp only [hA, Bool.false_eq_true, if_false] at h3
  have L := h5 hL
  obtain ⟨g, g1, g2, g3, g4⟩ := L
  obtain ⟨v', w', hr, ho, hg, hst⟩ := run_append_where (P := Try.prog) w B 23 ty 22 j0 (.slice none 0 0) 24 Try.underlying23 hj hy0 hy1 hy2 rfl v1 n1 xs1 h3.o1 ⟨g, 0, none⟩ 1 V1 (fun j u hu => by
    match j, hu with
    | 0, hu => simp at hu; subst hu; simpa [Addr.add] using g2) (by intro u hu; simp at hu; subst hu; exact hV) (by unfold maxLen; omega) hn h2
  refine ⟨g, v', w', g1, hr, v', v2, h1.grown hg h2 (fun k hk => (h3.o1.lt k hk).1), Nat.le_trans h2 hg.size, ⟨hq.1.grown hg, ?_, hq.2.2⟩, ?_, ?_, ?_⟩
  · rcases hst with e | e
    · exact .inl e
    · exact .inr fun g hg' => Nat.le_trans hq.1.1 (e g hg')
  · simp only [ne_or hi'.1, beq_self_eq_true, Bool.or_true, if_true]
    exact ⟨ho, other_kept (v' := v') h3.o2 h3.ap.symm hg, (other_apart h3.o2 h3.ap.symm hst).symm⟩
  · unfold SideR
    simp only [ne_or hi.1, ne_or hi.2, get_put a s1 _ _ hd, if_neg (Ne.symm hs.1), if_neg (Ne.symm hs.2), beq_self_eq_true, Bool.or_true, if_true]
    refine ⟨trivial, fun _ => LitAt.grown (n := n1) (xs := xs1) (h5 hL) hg hst, ?_⟩
    rw [hE] at h6 ⊢
    exact h6
  · have k := h7.keep (x := v') hd hi' hs'
    exact ⟨k.1, fun hl => (LitAt.grown (n := n1) (xs := xs1) (k.2.1 hl).swap hg hst).swap, k.2.2⟩

theorem TwoR.slot1 (h : TwoR A1 L1 E1 s1 t1 r1 A2 L2 E2 s2 t2 r2 B W0 u1 n1 xs1 V1 u2 n2 xs2 V2 w0 l a w) (hE : l E1 = false) : a.tmps.getD r1 undef = u1 := by
  obtain ⟨v1, v2, h1, h2, hq, h3, h4, h5⟩ := h
  rw [h4.2.2, hE]
  rfl
theorem TwoR.slot2 (h : TwoR A1 L1 E1 s1 t1 r1 A2 L2 E2 s2 t2 r2 B W0 u1 n1 xs1 V1 u2 n2 xs2 V2 w0 l a w) (hE : l E2 = false) : a.tmps.getD r2 undef = u2 := h.swap.slot1 hE

theorem TwoR.start (h1 : Below B W0 w) (h2 : B ≤ w.heap.size) (h3 : Two B w u1 n1 xs1 u2 n2 xs2) (e1 : a.tmps.getD r1 undef = u1) (e2 : a.tmps.getD r2 undef = u2) (hq : Beside w0 w u1 u2) : TwoR A1 L1 E1 s1 t1 r1 A2 L2 E2 s2 t2 r2 B W0 u1 n1 xs1 V1 u2 n2 xs2 V2 w0 (fun _ => false) a w :=
  ⟨u1, u2, h1, h2, ⟨hq, .inl rfl, .inl rfl⟩, by simpa using h3, ⟨by simp, fun h => (by cases h), by simpa using e1⟩, ⟨by simp, fun h => (by cases h), by simpa using e2⟩⟩

end Go.Proofs.Ythbddbipmoflfaa
