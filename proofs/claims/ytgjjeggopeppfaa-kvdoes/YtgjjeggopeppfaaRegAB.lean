/- Texts put together: RegRa, RegPu, RegFk. -/
import Derived.Test.YtgjjeggopeppfaaRows
import Derived.Test.YtgjjeggopeppfaaPages
import Derived.Test.YtgjjeggopeppfaaBasis
import Derived.Test.YtgjjeggopeppfaaLeast
import Derived.Test.YtgjjeggopeppfaaSeqP
import Derived.Test.YtgjjeggopeppfaaRooms
import Derived.Test.YtgjjeggopeppfaaInv
import Derived.Test.YtgjjeggopeppfaaCopyE
import Derived.Test.YtgjjeggopeppfaaDocAt
import Derived.Test.YtgjjeggopeppfaaDocKeep
import Derived.Test.YtgjjeggopeppfaaRegPg
import Derived.WalkKit
import Derived.ProofKit
import Derived.OpenShut
import Derived.Below
import Derived.WalkLawsBesides
import Derived.Deep.QuietTactic
import Derived.BigQuiet
import Derived.Orders
import Derived.OwnWalk
import Derived.Maps.AppendAt
namespace Go.Proofs.Ytgjjeggopeppfaa

/- The regions in which the document lays a new list of pages. -/
section
open Go.ChangeShapes Go.WideShapes Go.ChangeAt Go.RowKit
set_option linter.unusedVariables false
set_option linter.unusedSimpArgs false

theorem run_build49 (w : World) : (Instr.buildSlice 49 0 #[]).run Try.prog w = .ok (.slice (some ⟨w.heap.size, 0, none⟩) 0 0) (w.alloc (.cells #[] 3)) := by go_simp
theorem run_build49v (v : Int) (w : World) : (Instr.buildSlice 49 1 #[(0, .int .i64 v)]).run Try.prog w = .ok (.slice (some ⟨w.heap.size, 0, none⟩) 1 1) (w.alloc (.cells #[.int .i64 v] 3)) := by go_simp
theorem run_ix49 (X : Addr) (n c : Nat) (k : Nat) (hk : k < n) (w : World) : (Instr.indexAt 49 (.slice (some X) n c) (.int .i64 k)).run Try.prog w = .ok (.pointer (some (X.add k))) w := by go_simp
/-- one number more behind a row of its own, the number lying in a block -/
theorem run_append2 {B : Nat} {w : World} {a : Option Addr} {l c : Nat} {zs : List Int} (h : RowI B w a l c zs) (hB : B ≤ w.heap.size) (hl : l ≤ 1000) {g1 : Nat} {z : Int} (hg : w.cell? ⟨g1, 0, none⟩ = some (.int .i64 z)) (hz : (Lit.int .i64 z).wf = true) :
    ∃ a' c' W2, (Builtin.append_ #[49, 49] 49 #[.slice a l c, .slice (some ⟨g1, 0, none⟩) 1 1]).run Try.prog w = .ok (.slice a' (l + 1) c') W2 ∧ RowI B W2 a' (l + 1) c' (zs ++ [z]) ∧ Below B w W2 := by
  obtain ⟨i0, hi, hz0, hz1, hz2⟩ := info_parts info3
  obtain ⟨v', w', hr, ho, hgr, _, hb⟩ := run_append_own_at (P := Try.prog) (w := w) B 49 49 3 i0 _ 1 8 Try.underlying49 hi hz0 hz1 hz2 rfl (by decide) _ l _ h.own ⟨g1, 0, none⟩ 1 1 [.int .i64 z] rfl (fun j u hj => by
    match j, hj with
    | 0, hj => simp at hj; subst hj; rw [add_nought']; exact hg) (one_oneCell _ _) (by unfold maxLen; omega) (by omega) hB
  obtain ⟨a', c', rfl⟩ := own_form ho
  refine ⟨a', c', w', hr, ⟨by simp [h.len], by simpa using ho, fun u hu => ?_⟩, (Below.refl B w).grown hgr hB (fun k e => (h.own.lt k e).1)⟩
  rcases List.mem_append.1 hu with hu | hu
  · exact h.wf u hu
  · simp at hu; subst hu; exact hz
def raD (i : Nat) : Option Nat := match i with | 0 => some 104 | 1 => some 105 | 2 => some 106 | 3 => some 107 | 4 => some 108 | 5 => some 109 | 6 => some 110 | 7 => some 111 | 8 => some 112 | 9 => some 113 | 10 => some 114 | 11 => some 115 | 12 => some 116 | 13 => some 117 | _ => none
theorem raD_inj : ∀ i, i < 15 → ∀ j, j < 15 → raD i = raD j → raD i ≠ none → i = j := by decide
theorem raD_lt : ∀ i, i < 15 → ∀ d, raD i = some d → d < 118 := by
  intro i hi d h
  have : ∀ i, i < 15 → (raD i).all (fun d => decide (d < 118)) = true := by decide
  have := this i hi
  rw [h] at this
  simpa using this
def raF (x L c p1 w0s : Nat) (sa : Option Addr) (y1 : Addr) (Y : Int) (P : List Int) (Fin : World → Prop) (l : Nat → Bool) (i : Nat) (q : Value) (w : World) : Prop := match i with
  | 0 => q = .pointer (some ⟨x, 0, none⟩)
  | 1 => ∃ g0, q = .slice (some ⟨g0, 0, none⟩) 0 0 ∧ (l 11 = false → w0s ≤ g0 ∧ w.heap[g0]? = some (.cells #[] 3 (0, 0)))
  | 2 => q = .pointer (some ⟨x, 0, none⟩)
  | 3 => q = .pointer (some ⟨x, 0, none⟩)
  | 4 => q = .pointer (some ⟨x, 3, none⟩)
  | 5 => q = .slice sa L c
  | 6 => ∃ ca cc, q = .slice ca L cc ∧ (l 11 = false → RowI w0s w ca L cc P)
  | 7 => q = .slice (some y1) 1 p1
  | 8 => q = .pointer (some (y1.add 0))
  | 9 => q = .int .i64 Y
  | 10 => ∃ g1, q = .slice (some ⟨g1, 0, none⟩) 1 1 ∧ (l 11 = false → w.cell? ⟨g1, 0, none⟩ = some (.int .i64 Y))
  | 11 => ∃ ca cc, q = .slice ca (L + 1) cc ∧ (l 14 = false → RowI w0s w ca (L + 1) cc (P ++ [Y]))
  | 12 => q = .pointer (some ⟨x, 0, none⟩)
  | 13 => q = .pointer (some ⟨x, 3, none⟩)
  | 14 => True
  | _ => True
def raS (x L c p1 w0s : Nat) (sa : Option Addr) (y1 : Addr) (Y : Int) (P : List Int) (Fin : World → Prop) (w0 : World) (l : Nat → Bool) (w : World) : Prop := (l 14 = false → Below w0.heap.size w0 w) ∧ (l 14 = true → Fin w)
theorem raF_below {x L c p1 w0s : Nat} {sa : Option Addr} {y1 : Addr} {Y : Int} {P : List Int} {Fin : World → Prop} {l l' : Nat → Bool} {i : Nat} {q : Value} {w w' : World} (h : raF x L c p1 w0s sa y1 Y P Fin l i q w) (hb : Below w.heap.size w w') (m1 : l' 11 = l 11) (m2 : l' 14 = l 14) : raF x L c p1 w0s sa y1 Y P Fin l' i q w' := by
  unfold raF at h ⊢
  split
  · exact h
  · obtain ⟨g0, hq, hh⟩ := h; exact ⟨g0, hq, fun e => ⟨(hh (by rw [← m1]; exact e)).1, (hb.block _ (Array.getElem?_eq_some_iff.1 (hh (by rw [← m1]; exact e)).2).1).trans (hh (by rw [← m1]; exact e)).2⟩⟩
  · exact h
  · exact h
  · exact h
  · exact h
  · obtain ⟨ca, cc, hq, hh⟩ := h; exact ⟨ca, cc, hq, fun e => (hh (by rw [← m1]; exact e)).below hb⟩
  · exact h
  · exact h
  · exact h
  · obtain ⟨g1, hq, hh⟩ := h; exact ⟨g1, hq, fun e => (hb.cell (World.block_lt_of_cell? w _ (hh (by rw [← m1]; exact e)))).trans (hh (by rw [← m1]; exact e))⟩
  · obtain ⟨ca, cc, hq, hh⟩ := h; exact ⟨ca, cc, hq, fun e => (hh (by rw [← m2]; exact e)).below hb⟩
  · exact h
  · exact h
  · exact h
  · trivial
theorem raF_late {x L c p1 w0s : Nat} {sa : Option Addr} {y1 : Addr} {Y : Int} {P : List Int} {Fin : World → Prop} {l l' : Nat → Bool} {i : Nat} {q : Value} {w w' : World} (h : raF x L c p1 w0s sa y1 Y P Fin l i q w) (hne : i ≠ 11) (m1 : l' 11 = true) (m2 : l' 14 = l 14) : raF x L c p1 w0s sa y1 Y P Fin l' i q w' := by
  unfold raF at h ⊢
  split
  · exact h
  · obtain ⟨g0, hq, _⟩ := h; exact ⟨g0, hq, fun e => by rw [m1] at e; cases e⟩
  · exact h
  · exact h
  · exact h
  · exact h
  · obtain ⟨ca, cc, hq, _⟩ := h; exact ⟨ca, cc, hq, fun e => by rw [m1] at e; cases e⟩
  · exact h
  · exact h
  · exact h
  · obtain ⟨g1, hq, _⟩ := h; exact ⟨g1, hq, fun e => by rw [m1] at e; cases e⟩
  · exact absurd rfl hne
  · exact h
  · exact h
  · exact h
  · trivial
theorem raF_end {x L c p1 w0s : Nat} {sa : Option Addr} {y1 : Addr} {Y : Int} {P : List Int} {Fin : World → Prop} {l l' : Nat → Bool} {i : Nat} {q : Value} {w w' : World} (h : raF x L c p1 w0s sa y1 Y P Fin l i q w) (m1 : l' 11 = l 11) (m2 : l' 14 = true) (la : l 11 = true) : raF x L c p1 w0s sa y1 Y P Fin l' i q w' := by
  unfold raF at h ⊢
  split
  · exact h
  · obtain ⟨g0, hq, _⟩ := h; exact ⟨g0, hq, fun e => by rw [m1, la] at e; cases e⟩
  · exact h
  · exact h
  · exact h
  · exact h
  · obtain ⟨ca, cc, hq, _⟩ := h; exact ⟨ca, cc, hq, fun e => by rw [m1, la] at e; cases e⟩
  · exact h
  · exact h
  · exact h
  · obtain ⟨g1, hq, _⟩ := h; exact ⟨g1, hq, fun e => by rw [m1, la] at e; cases e⟩
  · obtain ⟨ca, cc, hq, _⟩ := h; exact ⟨ca, cc, hq, fun e => by rw [m2] at e; cases e⟩
  · exact h
  · exact h
  · exact h
  · trivial

set_option maxHeartbeats 8000000 in
theorem ra_region {id : Nat} {ops : Array Oper} {Q : Exit → Act → World → Prop} {a0 : Act} {w0 : World} (x L c p1 w0s : Nat) (sa : Option Addr) (y1 : Addr) (Y : Int) (P : List Int) (Fin : World → Prop) (hlow : lowB ops = true) (hsz : ops.size = 15)
    (o0 : OpIn ops 0 (some 104) (.move (.tmp 0)) none []) (o1 : OpIn ops 1 (some 105) (.buildSlice 49 0 #[]) none []) (o2 : OpIn ops 2 (some 106) (.move (.tmp 0)) none []) (o3 : OpIn ops 3 (some 107) (.nilCheck (.tmp 106)) none [2]) (o4 : OpIn ops 4 (some 108) (.fieldAddr 51 (.tmp 107) 3) none [3]) (o5 : OpIn ops 5 (some 109) (.load 49 (.tmp 108)) none [4]) (o6 : OpIn ops 6 (some 110) (.call { callee := .builtin .append, args := #[.tmp 105, .tmp 109], argTypes := #[49, 49] }) none [1, 5]) (o7 : OpIn ops 7 (some 111) (.move (.tmp 5)) none []) (o8 : OpIn ops 8 (some 112) (.indexAddr 49 (.tmp 111) (.const (.int .i64 0))) none [7]) (o9 : OpIn ops 9 (some 113) (.load 3 (.tmp 112)) none [8]) (o10 : OpIn ops 10 (some 114) (.buildSlice 49 1 #[(0, .tmp 113)]) none [9]) (o11 : OpIn ops 11 (some 115) (.call { callee := .builtin .append, args := #[.tmp 110, .tmp 114], argTypes := #[49, 49] }) none [6, 10]) (o12 : OpIn ops 12 (some 116) (.nilCheck (.tmp 104)) none [0]) (o13 : OpIn ops 13 (some 117) (.fieldAddr 51 (.tmp 116) 3) none [12]) (o14 : OpIn ops 14 none (.store 49 (.tmp 117) (.tmp 115)) none [11, 13])
    (hS : raS x L c p1 w0s sa y1 Y P Fin w0 (fun _ => false) w0.drew)
    (x4 : ∀ w, (Instr.fieldAt 51 (.pointer (some ⟨x, 0, none⟩)) 3).run Try.prog w = .ok (.pointer (some ⟨x, 3, none⟩)) w)
    (x5 : ∀ l w, raS x L c p1 w0s sa y1 Y P Fin w0 l w → l 14 = false → (Instr.loadAt 49 (.pointer (some ⟨x, 3, none⟩))).run Try.prog w = .ok (.slice sa L c) w)
    (x8 : ∀ w, (Instr.indexAt 49 (.slice (some y1) 1 p1) (.int .i64 0)).run Try.prog w = .ok (.pointer (some (y1.add 0))) w)
    (x9 : ∀ l w, raS x L c p1 w0s sa y1 Y P Fin w0 l w → l 14 = false → (Instr.loadAt 3 (.pointer (some (y1.add 0)))).run Try.prog w = .ok (.int .i64 Y) w)
    (x13 : ∀ w, (Instr.fieldAt 51 (.pointer (some ⟨x, 0, none⟩)) 3).run Try.prog w = .ok (.pointer (some ⟨x, 3, none⟩)) w)
    (u0 : a0.tmps.getD 0 undef = .pointer (some ⟨x, 0, none⟩))
    (u5 : a0.tmps.getD 5 undef = .slice (some y1) 1 p1)
    (hw0s : w0s = w0.heap.size) (hn : L ≤ 1000) (hY : (Lit.int .i64 Y).wf = true)
    (hty6 : ∀ o, ops[6]? = some o → o.type = 49) (hty11 : ∀ o, ops[11]? = some o → o.type = 49)
    (hrd : ∀ w, Below w0.heap.size w0 w → Reads .i64 w sa L P)
    (hst : ∀ w ca cc, Below w0.heap.size w0 w → RowI w0s w ca (L + 1) cc (P ++ [Y]) → (Instr.storeAt 49 (.pointer (some ⟨x, 3, none⟩)) (.slice ca (L + 1) cc)).run Try.prog w = .ok () (w.setCell ⟨x, 3, none⟩ (.slice ca (L + 1) cc)) ∧ Fin (w.setCell ⟨x, 3, none⟩ (.slice ca (L + 1) cc)))
    (hs : 118 ≤ a0.tmps.size)
    (fin : ∀ l a w, (∀ j, j < 15 → l j = true) → a.tmps.size = a0.tmps.size → a.defers = a0.defers → (∀ s, (∀ i, i < 15 → raD i ≠ some s) → a.tmps.getD s undef = a0.tmps.getD s undef) → raS x L c p1 w0s sa y1 Y P Fin w0 l w → (∀ i d, i < 15 → raD i = some d → raF x L c p1 w0s sa y1 Y P Fin l i (a.tmps.getD d undef) w) → Q .normal a w) : (Code.region id ops true).wp Try.prog Q a0 w0 := by
  refine wp_region_inv2 (by kernel_rfl) hlow (Inv 15 raD a0 (fun l _ w => raS x L c p1 w0s sa y1 Y P Fin w0 l w) (raF x L c p1 w0s sa y1 Y P Fin)) (Inv.start hS) ?_ ?_
  · intro l i o a w ho hl hcl hdep hI
    have hi : i < 15 := by rw [← hsz]; exact (Array.getElem?_eq_some_iff.1 ho).1
    have ev : ∀ (s : Nat), a.eval (.tmp s) = a.tmps.getD s undef := fun _ => rfl
    have evf : ∀ f, a.eval (.func f) = .func (.func f) #[] #[] := fun _ => rfl
    have evc : ∀ c : Value, a.eval (.const c) = c := fun _ => rfl
    have inj : ∀ d, raD i = some d → ∀ j d', j < 15 → raD j = some d' → j ≠ i → d' ≠ d := fun d hd j d' hj hd' hne e => hne (raD_inj j hj i hi (by rw [hd', hd, e]) (by rw [hd']; simp))
    have kp : ∀ s, (∀ i, i < 15 → raD i ≠ some s) → a.tmps.getD s undef = a0.tmps.getD s undef := hI.kept
    have hw : raS x L c p1 w0s sa y1 Y P Fin w0 l w := hI.world
    have oth : ∀ j, j ≠ i → (l j || j == i) = l j := fun j hj => by rw [show (j == i) = false by simp [hj], Bool.or_false]
    have sam : (l i || i == i) = true := by simp
    have go : ∀ {d : Nat} {v : Value}, raD i = some d → (i ≠ 11 ∧ i ≠ 14) → raF x L c p1 w0s sa y1 Y P Fin (fun j => l j || j == i) i v w → Inv 15 raD a0 (fun l _ w => raS x L c p1 w0s sa y1 Y P Fin w0 l w) (raF x L c p1 w0s sa y1 Y P Fin) (fun j => l j || j == i) (a.put (some d) v) w := by
      intro d v hD hn hF
      refine hI.put hi hD (Nat.lt_of_lt_of_le (raD_lt i hi d hD) hs) (inj d hD) ?_ hF (fun j u _ _ _ hf => ?_)
      · show raS x L c p1 w0s sa y1 Y P Fin w0 _ w
        unfold raS at hw ⊢
        dsimp only
        rw [oth 14 (by omega)]
        exact hw
      · unfold raF at hf ⊢
        dsimp only
        rw [oth 11 (by omega), oth 14 (by omega)]
        exact hf
    rcases (show i = 0 ∨ i = 1 ∨ i = 2 ∨ i = 3 ∨ i = 4 ∨ i = 5 ∨ i = 6 ∨ i = 7 ∨ i = 8 ∨ i = 9 ∨ i = 10 ∨ i = 11 ∨ i = 12 ∨ i = 13 ∨ i = 14 by omega) with rfl | rfl | rfl | rfl | rfl | rfl | rfl | rfl | rfl | rfl | rfl | rfl | rfl | rfl | rfl
    · obtain ⟨o', e1, e2, e3, e4, e5⟩ := o0
      obtain rfl := Option.some.inj (ho.symm.trans e1)
      have dp := dep_of' e5 hdep
      have U0 : a.tmps.getD 0 undef = .pointer (some ⟨x, 0, none⟩) := (kp 0 (by decide)).trans u0
      exact wpOp_value (v := .pointer (some ⟨x, 0, none⟩)) (w' := w) ho e4 (by simp [execOp, e3, ev, evc, U0]) (by rw [e2]; exact go rfl (by decide) rfl)
    · obtain ⟨o', e1, e2, e3, e4, e5⟩ := o1
      obtain rfl := Option.some.inj (ho.symm.trans e1)
      have dp := dep_of' e5 hdep
      have n11 : l 11 = false := by
        cases e : l 11 with
        | false => rfl
        | true =>
          exfalso
          have y0 := hcl.dep' o11 e 6 (by decide)
          have y1 := hcl.dep' o6 y0 1 (by decide)
          rw [hl] at y1
          cases y1
      have n14 : l 14 = false := by
        cases e : l 14 with
        | false => rfl
        | true =>
          exfalso
          have y0 := hcl.dep' o14 e 11 (by decide)
          have y1 := hcl.dep' o11 y0 6 (by decide)
          have y2 := hcl.dep' o6 y1 1 (by decide)
          rw [hl] at y2
          cases y2
      have hb1 := below_new (Below.refl w.heap.size w) (.cells #[] 3)
      refine wpOp_value (v := .slice (some ⟨w.heap.size, 0, none⟩) 0 0) (w' := w.alloc (.cells #[] 3)) ho e4 (by simp [execOp, e3, run_build49]) ?_
      rw [e2]
      refine hI.put hi rfl (Nat.lt_of_lt_of_le (by decide) hs) (inj 105 rfl) ?_ ?_ (fun j u _ _ _ hf => raF_below hf hb1 (oth 11 (by decide)) (oth 14 (by decide)))
      · show raS x L c p1 w0s sa y1 Y P Fin w0 _ _
        unfold raS at hw ⊢
        dsimp only
        rw [oth 14 (by decide)]
        exact ⟨fun _ => below_then (hw.1 n14) hb1, fun h => by rw [n14] at h; cases h⟩
      · exact ⟨_, rfl, fun _ => ⟨by rw [hw0s]; exact (hw.1 n14).size, heap_alloc_new w _⟩⟩
    · obtain ⟨o', e1, e2, e3, e4, e5⟩ := o2
      obtain rfl := Option.some.inj (ho.symm.trans e1)
      have dp := dep_of' e5 hdep
      have U0 : a.tmps.getD 0 undef = .pointer (some ⟨x, 0, none⟩) := (kp 0 (by decide)).trans u0
      exact wpOp_value (v := .pointer (some ⟨x, 0, none⟩)) (w' := w) ho e4 (by simp [execOp, e3, ev, evc, U0]) (by rw [e2]; exact go rfl (by decide) rfl)
    · obtain ⟨o', e1, e2, e3, e4, e5⟩ := o3
      obtain rfl := Option.some.inj (ho.symm.trans e1)
      have dp := dep_of' e5 hdep
      have V2 : a.tmps.getD 106 undef = .pointer (some ⟨x, 0, none⟩) := hI.val 2 106 (by decide) rfl (dp 2 (by decide))
      exact wpOp_value (v := .pointer (some ⟨x, 0, none⟩)) (w' := w) ho e4 (by simp [execOp, e3, ev, evc, V2]) (by rw [e2]; exact go rfl (by decide) rfl)
    · obtain ⟨o', e1, e2, e3, e4, e5⟩ := o4
      obtain rfl := Option.some.inj (ho.symm.trans e1)
      have dp := dep_of' e5 hdep
      have V3 : a.tmps.getD 107 undef = .pointer (some ⟨x, 0, none⟩) := hI.val 3 107 (by decide) rfl (dp 3 (by decide))
      exact wpOp_value (v := .pointer (some ⟨x, 3, none⟩)) (w' := w) ho e4 (by simp [execOp, e3, ev, evc, V3, x4 w]) (by rw [e2]; exact go rfl (by decide) rfl)
    · obtain ⟨o', e1, e2, e3, e4, e5⟩ := o5
      obtain rfl := Option.some.inj (ho.symm.trans e1)
      have dp := dep_of' e5 hdep
      have V4 : a.tmps.getD 108 undef = .pointer (some ⟨x, 3, none⟩) := hI.val 4 108 (by decide) rfl (dp 4 (by decide))
      have n14 : l 14 = false := by
        cases e : l 14 with
        | false => rfl
        | true =>
          exfalso
          have y0 := hcl.dep' o14 e 11 (by decide)
          have y1 := hcl.dep' o11 y0 6 (by decide)
          have y2 := hcl.dep' o6 y1 5 (by decide)
          rw [hl] at y2
          cases y2
      exact wpOp_value (v := .slice sa L c) (w' := w) ho e4 (by simp [execOp, e3, ev, evc, V4, x5 l w hw n14]) (by rw [e2]; exact go rfl (by decide) rfl)
    · obtain ⟨o', e1, e2, e3, e4, e5⟩ := o6
      obtain rfl := Option.some.inj (ho.symm.trans e1)
      have dp := dep_of' e5 hdep
      obtain ⟨g0, V1, f1⟩ : ∃ g0, a.tmps.getD 105 undef = .slice (some ⟨g0, 0, none⟩) 0 0 ∧ (l 11 = false → w0s ≤ g0 ∧ w.heap[g0]? = some (.cells #[] 3 (0, 0))) := hI.val 1 105 (by decide) rfl (dp 1 (by decide))
      have V5 : a.tmps.getD 109 undef = .slice sa L c := hI.val 5 109 (by decide) rfl (dp 5 (by decide))
      have n11 : l 11 = false := by
        cases e : l 11 with
        | false => rfl
        | true =>
          exfalso
          have y0 := hcl.dep' o11 e 6 (by decide)
          rw [hl] at y0
          cases y0
      have n14 : l 14 = false := by
        cases e : l 14 with
        | false => rfl
        | true =>
          exfalso
          have y0 := hcl.dep' o14 e 11 (by decide)
          have y1 := hcl.dep' o11 y0 6 (by decide)
          rw [hl] at y1
          cases y1
      obtain ⟨f1, f2⟩ := f1 n11
      have hlw := (hw.1 n14).size
      obtain ⟨ca, cc, W2, hap, hrow, -, hb1⟩ := run_copyE (c := c) f2 f1 (by rw [hw0s]; exact hlw) (hrd w (hw.1 n14)) hn
      refine wpOp_value (v := .slice ca L cc) (w' := W2) ho e4 (by simp only [execOp, e3, resolve, invoke, builtin, Sem.run_bind, Sem.run_pure, Result.andThen_ok, List.map_toArray, List.map_cons, List.map_nil, ev , V1, V5, hty6 _ ho, hap]) ?_
      rw [e2]
      refine hI.put hi rfl (Nat.lt_of_lt_of_le (by decide) hs) (inj 110 rfl) ?_ ?_ (fun j u _ _ _ hf => raF_below hf hb1 (oth 11 (by decide)) (oth 14 (by decide)))
      · show raS x L c p1 w0s sa y1 Y P Fin w0 _ _
        unfold raS at hw ⊢
        dsimp only
        rw [oth 14 (by decide)]
        exact ⟨fun _ => below_then (hw.1 n14) hb1, fun h => by rw [n14] at h; cases h⟩
      · exact ⟨_, _, rfl, fun _ => hrow⟩
    · obtain ⟨o', e1, e2, e3, e4, e5⟩ := o7
      obtain rfl := Option.some.inj (ho.symm.trans e1)
      have dp := dep_of' e5 hdep
      have U5 : a.tmps.getD 5 undef = .slice (some y1) 1 p1 := (kp 5 (by decide)).trans u5
      exact wpOp_value (v := .slice (some y1) 1 p1) (w' := w) ho e4 (by simp [execOp, e3, ev, evc, U5]) (by rw [e2]; exact go rfl (by decide) rfl)
    · obtain ⟨o', e1, e2, e3, e4, e5⟩ := o8
      obtain rfl := Option.some.inj (ho.symm.trans e1)
      have dp := dep_of' e5 hdep
      have V7 : a.tmps.getD 111 undef = .slice (some y1) 1 p1 := hI.val 7 111 (by decide) rfl (dp 7 (by decide))
      exact wpOp_value (v := .pointer (some (y1.add 0))) (w' := w) ho e4 (by simp [execOp, e3, ev, evc, V7, x8 w]) (by rw [e2]; exact go rfl (by decide) rfl)
    · obtain ⟨o', e1, e2, e3, e4, e5⟩ := o9
      obtain rfl := Option.some.inj (ho.symm.trans e1)
      have dp := dep_of' e5 hdep
      have V8 : a.tmps.getD 112 undef = .pointer (some (y1.add 0)) := hI.val 8 112 (by decide) rfl (dp 8 (by decide))
      have n14 : l 14 = false := by
        cases e : l 14 with
        | false => rfl
        | true =>
          exfalso
          have y0 := hcl.dep' o14 e 11 (by decide)
          have y1 := hcl.dep' o11 y0 10 (by decide)
          have y2 := hcl.dep' o10 y1 9 (by decide)
          rw [hl] at y2
          cases y2
      exact wpOp_value (v := .int .i64 Y) (w' := w) ho e4 (by simp [execOp, e3, ev, evc, V8, x9 l w hw n14]) (by rw [e2]; exact go rfl (by decide) rfl)
    · obtain ⟨o', e1, e2, e3, e4, e5⟩ := o10
      obtain rfl := Option.some.inj (ho.symm.trans e1)
      have dp := dep_of' e5 hdep
      have V9 : a.tmps.getD 113 undef = .int .i64 Y := hI.val 9 113 (by decide) rfl (dp 9 (by decide))
      have n11 : l 11 = false := by
        cases e : l 11 with
        | false => rfl
        | true =>
          exfalso
          have y0 := hcl.dep' o11 e 10 (by decide)
          rw [hl] at y0
          cases y0
      have n14 : l 14 = false := by
        cases e : l 14 with
        | false => rfl
        | true =>
          exfalso
          have y0 := hcl.dep' o14 e 11 (by decide)
          have y1 := hcl.dep' o11 y0 10 (by decide)
          rw [hl] at y1
          cases y1
      have hb1 := below_new (Below.refl w.heap.size w) (.cells #[.int .i64 Y] 3)
      refine wpOp_value (v := .slice (some ⟨w.heap.size, 0, none⟩) 1 1) (w' := w.alloc (.cells #[.int .i64 Y] 3)) ho e4 (by simp [execOp, e3, ev , V9, run_build49v]) ?_
      rw [e2]
      refine hI.put hi rfl (Nat.lt_of_lt_of_le (by decide) hs) (inj 114 rfl) ?_ ?_ (fun j u _ _ _ hf => raF_below hf hb1 (oth 11 (by decide)) (oth 14 (by decide)))
      · show raS x L c p1 w0s sa y1 Y P Fin w0 _ _
        unfold raS at hw ⊢
        dsimp only
        rw [oth 14 (by decide)]
        exact ⟨fun _ => below_then (hw.1 n14) hb1, fun h => by rw [n14] at h; cases h⟩
      · exact ⟨_, rfl, fun _ => by unfold World.cell?; rw [heap_alloc_new]; rfl⟩
    · obtain ⟨o', e1, e2, e3, e4, e5⟩ := o11
      obtain rfl := Option.some.inj (ho.symm.trans e1)
      have dp := dep_of' e5 hdep
      obtain ⟨ca6, cc6, V6, f6⟩ : ∃ ca cc, a.tmps.getD 110 undef = .slice ca L cc ∧ (l 11 = false → RowI w0s w ca L cc P) := hI.val 6 110 (by decide) rfl (dp 6 (by decide))
      obtain ⟨g1, V10, f10⟩ : ∃ g1, a.tmps.getD 114 undef = .slice (some ⟨g1, 0, none⟩) 1 1 ∧ (l 11 = false → w.cell? ⟨g1, 0, none⟩ = some (.int .i64 Y)) := hI.val 10 114 (by decide) rfl (dp 10 (by decide))
      have n14 : l 14 = false := by
        cases e : l 14 with
        | false => rfl
        | true =>
          exfalso
          have y0 := hcl.dep' o14 e 11 (by decide)
          rw [hl] at y0
          cases y0
      have hlw := (hw.1 n14).size
      obtain ⟨ca, cc, W2, hap, hrow, hb1⟩ := run_append2 (f6 hl) (by rw [hw0s]; exact hlw) hn (f10 hl) hY
      refine wpOp_value (v := .slice ca (L + 1) cc) (w' := W2) ho e4 (by simp only [execOp, e3, resolve, invoke, builtin, Sem.run_bind, Sem.run_pure, Result.andThen_ok, List.map_toArray, List.map_cons, List.map_nil, ev , V6, V10, hty11 _ ho, hap]) ?_
      rw [e2]
      refine hI.put hi rfl (Nat.lt_of_lt_of_le (by decide) hs) (inj 115 rfl) ?_ ?_ (fun j u _ _ hne hf => raF_late hf hne sam (oth 14 (by decide)))
      · show raS x L c p1 w0s sa y1 Y P Fin w0 _ _
        unfold raS at hw ⊢
        dsimp only
        rw [oth 14 (by decide)]
        exact ⟨fun _ => (hw.1 n14).trans (by rw [hw0s] at hb1; exact hb1), fun h => by rw [n14] at h; cases h⟩
      · exact ⟨_, _, rfl, fun _ => hrow⟩
    · obtain ⟨o', e1, e2, e3, e4, e5⟩ := o12
      obtain rfl := Option.some.inj (ho.symm.trans e1)
      have dp := dep_of' e5 hdep
      have V0 : a.tmps.getD 104 undef = .pointer (some ⟨x, 0, none⟩) := hI.val 0 104 (by decide) rfl (dp 0 (by decide))
      exact wpOp_value (v := .pointer (some ⟨x, 0, none⟩)) (w' := w) ho e4 (by simp [execOp, e3, ev, evc, V0]) (by rw [e2]; exact go rfl (by decide) rfl)
    · obtain ⟨o', e1, e2, e3, e4, e5⟩ := o13
      obtain rfl := Option.some.inj (ho.symm.trans e1)
      have dp := dep_of' e5 hdep
      have V12 : a.tmps.getD 116 undef = .pointer (some ⟨x, 0, none⟩) := hI.val 12 116 (by decide) rfl (dp 12 (by decide))
      exact wpOp_value (v := .pointer (some ⟨x, 3, none⟩)) (w' := w) ho e4 (by simp [execOp, e3, ev, evc, V12, x13 w]) (by rw [e2]; exact go rfl (by decide) rfl)
    · obtain ⟨o', e1, e2, e3, e4, e5⟩ := o14
      obtain rfl := Option.some.inj (ho.symm.trans e1)
      have dp := dep_of' e5 hdep
      obtain ⟨cb11, cd11, V11, f11⟩ : ∃ ca cc, a.tmps.getD 115 undef = .slice ca (L + 1) cc ∧ (l 14 = false → RowI w0s w ca (L + 1) cc (P ++ [Y])) := hI.val 11 115 (by decide) rfl (dp 11 (by decide))
      have V13 : a.tmps.getD 117 undef = .pointer (some ⟨x, 3, none⟩) := hI.val 13 117 (by decide) rfl (dp 13 (by decide))
      obtain ⟨hrn, hfn⟩ := hst w cb11 cd11 (hw.1 hl) (f11 hl)
      refine wpOp_skip (w' := w.setCell ⟨x, 3, none⟩ (.slice cb11 (L + 1) cd11)) ho e4 (by simp [execOp, e3, ev , V11, V13, hrn]) ?_
      rw [e2]
      refine hI.none_ rfl ?_ (fun j u _ _ hne hf => raF_end hf (oth 11 (by decide)) sam (dp 11 (by decide)))
      show raS x L c p1 w0s sa y1 Y P Fin w0 _ _
      unfold raS
      dsimp only
      rw [sam]
      exact ⟨(fun h => by cases h), fun _ => hfn⟩
  · intro l a w hall hI
    have all : ∀ j, j < 15 → l j = true := fun j hj => hall j (by rw [hsz]; exact hj)
    exact fin l a w all hI.size hI.defers hI.kept hI.world (fun i d hi hD => hI.val i d hi hD (all i hi))

def rbD (i : Nat) : Option Nat := match i with | 0 => some 83 | 1 => some 84 | 2 => some 85 | 3 => some 86 | 4 => some 87 | 5 => some 88 | 6 => some 89 | 7 => some 90 | 8 => some 91 | 9 => some 92 | 10 => some 93 | 11 => some 94 | 12 => some 95 | 13 => some 96 | 14 => some 97 | 15 => some 98 | 16 => some 99 | 17 => some 100 | 18 => some 101 | 19 => some 102 | 20 => some 103 | _ => none
theorem rbD_inj : ∀ i, i < 22 → ∀ j, j < 22 → rbD i = rbD j → rbD i ≠ none → i = j := by decide
theorem rbD_lt : ∀ i, i < 22 → ∀ d, rbD i = some d → d < 118 := by
  intro i hi d h
  have : ∀ i, i < 22 → (rbD i).all (fun d => decide (d < 118)) = true := by decide
  have := this i hi
  rw [h] at this
  simpa using this
def rbF (x L L1 c p1 w0s : Nat) (sa : Option Addr) (y1 : Addr) (Y : Int) (P : List Int) (Fin : World → Prop) (l : Nat → Bool) (i : Nat) (q : Value) (w : World) : Prop := match i with
  | 0 => q = .pointer (some ⟨x, 0, none⟩)
  | 1 => ∃ g0, q = .slice (some ⟨g0, 0, none⟩) 0 0 ∧ (l 18 = false → w0s ≤ g0 ∧ w.heap[g0]? = some (.cells #[] 3 (0, 0)))
  | 2 => q = .pointer (some ⟨x, 0, none⟩)
  | 3 => q = .pointer (some ⟨x, 0, none⟩)
  | 4 => q = .pointer (some ⟨x, 3, none⟩)
  | 5 => q = .slice sa L1 c
  | 6 => q = .pointer (some ⟨x, 0, none⟩)
  | 7 => q = .pointer (some ⟨x, 0, none⟩)
  | 8 => q = .pointer (some ⟨x, 3, none⟩)
  | 9 => q = .slice sa L1 c
  | 10 => q = .int .i64 (L1 : Nat)
  | 11 => q = .int .i64 (L : Nat)
  | 12 => q = .slice sa L c
  | 13 => ∃ ca cc, q = .slice ca L cc ∧ (l 18 = false → RowI w0s w ca L cc P)
  | 14 => q = .slice (some y1) 1 p1
  | 15 => q = .pointer (some (y1.add 0))
  | 16 => q = .int .i64 Y
  | 17 => ∃ g1, q = .slice (some ⟨g1, 0, none⟩) 1 1 ∧ (l 18 = false → w.cell? ⟨g1, 0, none⟩ = some (.int .i64 Y))
  | 18 => ∃ ca cc, q = .slice ca (L + 1) cc ∧ (l 21 = false → RowI w0s w ca (L + 1) cc (P ++ [Y]))
  | 19 => q = .pointer (some ⟨x, 0, none⟩)
  | 20 => q = .pointer (some ⟨x, 3, none⟩)
  | 21 => True
  | _ => True
def rbS (x L L1 c p1 w0s : Nat) (sa : Option Addr) (y1 : Addr) (Y : Int) (P : List Int) (Fin : World → Prop) (w0 : World) (l : Nat → Bool) (w : World) : Prop := (l 21 = false → Below w0.heap.size w0 w) ∧ (l 21 = true → Fin w)
theorem rbF_below {x L L1 c p1 w0s : Nat} {sa : Option Addr} {y1 : Addr} {Y : Int} {P : List Int} {Fin : World → Prop} {l l' : Nat → Bool} {i : Nat} {q : Value} {w w' : World} (h : rbF x L L1 c p1 w0s sa y1 Y P Fin l i q w) (hb : Below w.heap.size w w') (m1 : l' 18 = l 18) (m2 : l' 21 = l 21) : rbF x L L1 c p1 w0s sa y1 Y P Fin l' i q w' := by
  unfold rbF at h ⊢
  split
  · exact h
  · obtain ⟨g0, hq, hh⟩ := h; exact ⟨g0, hq, fun e => ⟨(hh (by rw [← m1]; exact e)).1, (hb.block _ (Array.getElem?_eq_some_iff.1 (hh (by rw [← m1]; exact e)).2).1).trans (hh (by rw [← m1]; exact e)).2⟩⟩
  · exact h
  · exact h
  · exact h
  · exact h
  · exact h
  · exact h
  · exact h
  · exact h
  · exact h
  · exact h
  · exact h
  · obtain ⟨ca, cc, hq, hh⟩ := h; exact ⟨ca, cc, hq, fun e => (hh (by rw [← m1]; exact e)).below hb⟩
  · exact h
  · exact h
  · exact h
  · obtain ⟨g1, hq, hh⟩ := h; exact ⟨g1, hq, fun e => (hb.cell (World.block_lt_of_cell? w _ (hh (by rw [← m1]; exact e)))).trans (hh (by rw [← m1]; exact e))⟩
  · obtain ⟨ca, cc, hq, hh⟩ := h; exact ⟨ca, cc, hq, fun e => (hh (by rw [← m2]; exact e)).below hb⟩
  · exact h
  · exact h
  · exact h
  · trivial
theorem rbF_late {x L L1 c p1 w0s : Nat} {sa : Option Addr} {y1 : Addr} {Y : Int} {P : List Int} {Fin : World → Prop} {l l' : Nat → Bool} {i : Nat} {q : Value} {w w' : World} (h : rbF x L L1 c p1 w0s sa y1 Y P Fin l i q w) (hne : i ≠ 18) (m1 : l' 18 = true) (m2 : l' 21 = l 21) : rbF x L L1 c p1 w0s sa y1 Y P Fin l' i q w' := by
  unfold rbF at h ⊢
  split
  · exact h
  · obtain ⟨g0, hq, _⟩ := h; exact ⟨g0, hq, fun e => by rw [m1] at e; cases e⟩
  · exact h
  · exact h
  · exact h
  · exact h
  · exact h
  · exact h
  · exact h
  · exact h
  · exact h
  · exact h
  · exact h
  · obtain ⟨ca, cc, hq, _⟩ := h; exact ⟨ca, cc, hq, fun e => by rw [m1] at e; cases e⟩
  · exact h
  · exact h
  · exact h
  · obtain ⟨g1, hq, _⟩ := h; exact ⟨g1, hq, fun e => by rw [m1] at e; cases e⟩
  · exact absurd rfl hne
  · exact h
  · exact h
  · exact h
  · trivial
theorem rbF_end {x L L1 c p1 w0s : Nat} {sa : Option Addr} {y1 : Addr} {Y : Int} {P : List Int} {Fin : World → Prop} {l l' : Nat → Bool} {i : Nat} {q : Value} {w w' : World} (h : rbF x L L1 c p1 w0s sa y1 Y P Fin l i q w) (m1 : l' 18 = l 18) (m2 : l' 21 = true) (la : l 18 = true) : rbF x L L1 c p1 w0s sa y1 Y P Fin l' i q w' := by
  unfold rbF at h ⊢
  split
  · exact h
  · obtain ⟨g0, hq, _⟩ := h; exact ⟨g0, hq, fun e => by rw [m1, la] at e; cases e⟩
  · exact h
  · exact h
  · exact h
  · exact h
  · exact h
  · exact h
  · exact h
  · exact h
  · exact h
  · exact h
  · exact h
  · obtain ⟨ca, cc, hq, _⟩ := h; exact ⟨ca, cc, hq, fun e => by rw [m1, la] at e; cases e⟩
  · exact h
  · exact h
  · exact h
  · obtain ⟨g1, hq, _⟩ := h; exact ⟨g1, hq, fun e => by rw [m1, la] at e; cases e⟩
  · obtain ⟨ca, cc, hq, _⟩ := h; exact ⟨ca, cc, hq, fun e => by rw [m2] at e; cases e⟩
  · exact h
  · exact h
  · exact h
  · trivial

set_option maxHeartbeats 8000000 in
theorem rb_region {id : Nat} {ops : Array Oper} {Q : Exit → Act → World → Prop} {a0 : Act} {w0 : World} (x L L1 c p1 w0s : Nat) (sa : Option Addr) (y1 : Addr) (Y : Int) (P : List Int) (Fin : World → Prop) (hlow : lowB ops = true) (hsz : ops.size = 22)
    (o0 : OpIn ops 0 (some 83) (.move (.tmp 0)) none []) (o1 : OpIn ops 1 (some 84) (.buildSlice 49 0 #[]) none []) (o2 : OpIn ops 2 (some 85) (.move (.tmp 0)) none []) (o3 : OpIn ops 3 (some 86) (.nilCheck (.tmp 85)) none [2]) (o4 : OpIn ops 4 (some 87) (.fieldAddr 51 (.tmp 86) 3) none [3]) (o5 : OpIn ops 5 (some 88) (.load 49 (.tmp 87)) none [4]) (o6 : OpIn ops 6 (some 89) (.move (.tmp 0)) none []) (o7 : OpIn ops 7 (some 90) (.nilCheck (.tmp 89)) none [6]) (o8 : OpIn ops 8 (some 91) (.fieldAddr 51 (.tmp 90) 3) none [7]) (o9 : OpIn ops 9 (some 92) (.load 49 (.tmp 91)) none [8]) (o10 : OpIn ops 10 (some 93) (.call { callee := .builtin .len, args := #[.tmp 92], argTypes := #[49] }) none [9]) (o11 : OpIn ops 11 (some 94) (.binOp .sub 3 (.tmp 93) (.const (.int .i64 1)) 3) none [10]) (o12 : OpIn ops 12 (some 95) (.slice 49 (.tmp 88) none (some (.tmp 94)) none) none [5, 11]) (o13 : OpIn ops 13 (some 96) (.call { callee := .builtin .append, args := #[.tmp 84, .tmp 95], argTypes := #[49, 49] }) none [1, 12]) (o14 : OpIn ops 14 (some 97) (.move (.tmp 5)) none []) (o15 : OpIn ops 15 (some 98) (.indexAddr 49 (.tmp 97) (.const (.int .i64 0))) none [14]) (o16 : OpIn ops 16 (some 99) (.load 3 (.tmp 98)) none [15]) (o17 : OpIn ops 17 (some 100) (.buildSlice 49 1 #[(0, .tmp 99)]) none [16]) (o18 : OpIn ops 18 (some 101) (.call { callee := .builtin .append, args := #[.tmp 96, .tmp 100], argTypes := #[49, 49] }) none [13, 17]) (o19 : OpIn ops 19 (some 102) (.nilCheck (.tmp 83)) none [0]) (o20 : OpIn ops 20 (some 103) (.fieldAddr 51 (.tmp 102) 3) none [19]) (o21 : OpIn ops 21 none (.store 49 (.tmp 103) (.tmp 101)) none [18, 20])
    (hS : rbS x L L1 c p1 w0s sa y1 Y P Fin w0 (fun _ => false) w0.drew)
    (x4 : ∀ w, (Instr.fieldAt 51 (.pointer (some ⟨x, 0, none⟩)) 3).run Try.prog w = .ok (.pointer (some ⟨x, 3, none⟩)) w)
    (x5 : ∀ l w, rbS x L L1 c p1 w0s sa y1 Y P Fin w0 l w → l 21 = false → (Instr.loadAt 49 (.pointer (some ⟨x, 3, none⟩))).run Try.prog w = .ok (.slice sa L1 c) w)
    (x8 : ∀ w, (Instr.fieldAt 51 (.pointer (some ⟨x, 0, none⟩)) 3).run Try.prog w = .ok (.pointer (some ⟨x, 3, none⟩)) w)
    (x9 : ∀ l w, rbS x L L1 c p1 w0s sa y1 Y P Fin w0 l w → l 21 = false → (Instr.loadAt 49 (.pointer (some ⟨x, 3, none⟩))).run Try.prog w = .ok (.slice sa L1 c) w)
    (x11 : ∀ w, (binOp .sub 3 (.int .i64 (L1 : Nat)) (.int .i64 1)).run Try.prog w = .ok (.int .i64 (L : Nat)) w)
    (x12 : ∀ w, (Instr.sliceAt 49 (.slice sa L1 c) none (some (.int .i64 (L : Nat))) none).run Try.prog w = .ok (.slice sa L c) w)
    (x15 : ∀ w, (Instr.indexAt 49 (.slice (some y1) 1 p1) (.int .i64 0)).run Try.prog w = .ok (.pointer (some (y1.add 0))) w)
    (x16 : ∀ l w, rbS x L L1 c p1 w0s sa y1 Y P Fin w0 l w → l 21 = false → (Instr.loadAt 3 (.pointer (some (y1.add 0)))).run Try.prog w = .ok (.int .i64 Y) w)
    (x20 : ∀ w, (Instr.fieldAt 51 (.pointer (some ⟨x, 0, none⟩)) 3).run Try.prog w = .ok (.pointer (some ⟨x, 3, none⟩)) w)
    (u0 : a0.tmps.getD 0 undef = .pointer (some ⟨x, 0, none⟩))
    (u5 : a0.tmps.getD 5 undef = .slice (some y1) 1 p1)
    (hw0s : w0s = w0.heap.size) (hn : L ≤ 1000) (hY : (Lit.int .i64 Y).wf = true)
    (hty13 : ∀ o, ops[13]? = some o → o.type = 49) (hty18 : ∀ o, ops[18]? = some o → o.type = 49)
    (hrd : ∀ w, Below w0.heap.size w0 w → Reads .i64 w sa L P)
    (hst : ∀ w ca cc, Below w0.heap.size w0 w → RowI w0s w ca (L + 1) cc (P ++ [Y]) → (Instr.storeAt 49 (.pointer (some ⟨x, 3, none⟩)) (.slice ca (L + 1) cc)).run Try.prog w = .ok () (w.setCell ⟨x, 3, none⟩ (.slice ca (L + 1) cc)) ∧ Fin (w.setCell ⟨x, 3, none⟩ (.slice ca (L + 1) cc)))
    (hs : 118 ≤ a0.tmps.size)
    (fin : ∀ l a w, (∀ j, j < 22 → l j = true) → a.tmps.size = a0.tmps.size → a.defers = a0.defers → (∀ s, (∀ i, i < 22 → rbD i ≠ some s) → a.tmps.getD s undef = a0.tmps.getD s undef) → rbS x L L1 c p1 w0s sa y1 Y P Fin w0 l w → (∀ i d, i < 22 → rbD i = some d → rbF x L L1 c p1 w0s sa y1 Y P Fin l i (a.tmps.getD d undef) w) → Q .normal a w) : (Code.region id ops true).wp Try.prog Q a0 w0 := by
  refine wp_region_inv2 (by kernel_rfl) hlow (Inv 22 rbD a0 (fun l _ w => rbS x L L1 c p1 w0s sa y1 Y P Fin w0 l w) (rbF x L L1 c p1 w0s sa y1 Y P Fin)) (Inv.start hS) ?_ ?_
  · intro l i o a w ho hl hcl hdep hI
    have hi : i < 22 := by rw [← hsz]; exact (Array.getElem?_eq_some_iff.1 ho).1
    have ev : ∀ (s : Nat), a.eval (.tmp s) = a.tmps.getD s undef := fun _ => rfl
    have evf : ∀ f, a.eval (.func f) = .func (.func f) #[] #[] := fun _ => rfl
    have evc : ∀ c : Value, a.eval (.const c) = c := fun _ => rfl
    have inj : ∀ d, rbD i = some d → ∀ j d', j < 22 → rbD j = some d' → j ≠ i → d' ≠ d := fun d hd j d' hj hd' hne e => hne (rbD_inj j hj i hi (by rw [hd', hd, e]) (by rw [hd']; simp))
    have kp : ∀ s, (∀ i, i < 22 → rbD i ≠ some s) → a.tmps.getD s undef = a0.tmps.getD s undef := hI.kept
    have hw : rbS x L L1 c p1 w0s sa y1 Y P Fin w0 l w := hI.world
    have oth : ∀ j, j ≠ i → (l j || j == i) = l j := fun j hj => by rw [show (j == i) = false by simp [hj], Bool.or_false]
    have sam : (l i || i == i) = true := by simp
    have go : ∀ {d : Nat} {v : Value}, rbD i = some d → (i ≠ 18 ∧ i ≠ 21) → rbF x L L1 c p1 w0s sa y1 Y P Fin (fun j => l j || j == i) i v w → Inv 22 rbD a0 (fun l _ w => rbS x L L1 c p1 w0s sa y1 Y P Fin w0 l w) (rbF x L L1 c p1 w0s sa y1 Y P Fin) (fun j => l j || j == i) (a.put (some d) v) w := by
      intro d v hD hn hF
      refine hI.put hi hD (Nat.lt_of_lt_of_le (rbD_lt i hi d hD) hs) (inj d hD) ?_ hF (fun j u _ _ _ hf => ?_)
      · show rbS x L L1 c p1 w0s sa y1 Y P Fin w0 _ w
        unfold rbS at hw ⊢
        dsimp only
        rw [oth 21 (by omega)]
        exact hw
      · unfold rbF at hf ⊢
        dsimp only
        rw [oth 18 (by omega), oth 21 (by omega)]
        exact hf
    rcases (show i = 0 ∨ i = 1 ∨ i = 2 ∨ i = 3 ∨ i = 4 ∨ i = 5 ∨ i = 6 ∨ i = 7 ∨ i = 8 ∨ i = 9 ∨ i = 10 ∨ i = 11 ∨ i = 12 ∨ i = 13 ∨ i = 14 ∨ i = 15 ∨ i = 16 ∨ i = 17 ∨ i = 18 ∨ i = 19 ∨ i = 20 ∨ i = 21 by omega) with rfl | rfl | rfl | rfl | rfl | rfl | rfl | rfl | rfl | rfl | rfl | rfl | rfl | rfl | rfl | rfl | rfl | rfl | rfl | rfl | rfl | rfl
    · obtain ⟨o', e1, e2, e3, e4, e5⟩ := o0
      obtain rfl := Option.some.inj (ho.symm.trans e1)
      have dp := dep_of' e5 hdep
      have U0 : a.tmps.getD 0 undef = .pointer (some ⟨x, 0, none⟩) := (kp 0 (by decide)).trans u0
      exact wpOp_value (v := .pointer (some ⟨x, 0, none⟩)) (w' := w) ho e4 (by simp [execOp, e3, ev, evc, U0]) (by rw [e2]; exact go rfl (by decide) rfl)
    · obtain ⟨o', e1, e2, e3, e4, e5⟩ := o1
      obtain rfl := Option.some.inj (ho.symm.trans e1)
      have dp := dep_of' e5 hdep
      have n18 : l 18 = false := by
        cases e : l 18 with
        | false => rfl
        | true =>
          exfalso
          have y0 := hcl.dep' o18 e 13 (by decide)
          have y1 := hcl.dep' o13 y0 1 (by decide)
          rw [hl] at y1
          cases y1
      have n21 : l 21 = false := by
        cases e : l 21 with
        | false => rfl
        | true =>
          exfalso
          have y0 := hcl.dep' o21 e 18 (by decide)
          have y1 := hcl.dep' o18 y0 13 (by decide)
          have y2 := hcl.dep' o13 y1 1 (by decide)
          rw [hl] at y2
          cases y2
      have hb1 := below_new (Below.refl w.heap.size w) (.cells #[] 3)
      refine wpOp_value (v := .slice (some ⟨w.heap.size, 0, none⟩) 0 0) (w' := w.alloc (.cells #[] 3)) ho e4 (by simp [execOp, e3, run_build49]) ?_
      rw [e2]
      refine hI.put hi rfl (Nat.lt_of_lt_of_le (by decide) hs) (inj 84 rfl) ?_ ?_ (fun j u _ _ _ hf => rbF_below hf hb1 (oth 18 (by decide)) (oth 21 (by decide)))
      · show rbS x L L1 c p1 w0s sa y1 Y P Fin w0 _ _
        unfold rbS at hw ⊢
        dsimp only
        rw [oth 21 (by decide)]
        exact ⟨fun _ => below_then (hw.1 n21) hb1, fun h => by rw [n21] at h; cases h⟩
      · exact ⟨_, rfl, fun _ => ⟨by rw [hw0s]; exact (hw.1 n21).size, heap_alloc_new w _⟩⟩
    · obtain ⟨o', e1, e2, e3, e4, e5⟩ := o2
      obtain rfl := Option.some.inj (ho.symm.trans e1)
      have dp := dep_of' e5 hdep
      have U0 : a.tmps.getD 0 undef = .pointer (some ⟨x, 0, none⟩) := (kp 0 (by decide)).trans u0
      exact wpOp_value (v := .pointer (some ⟨x, 0, none⟩)) (w' := w) ho e4 (by simp [execOp, e3, ev, evc, U0]) (by rw [e2]; exact go rfl (by decide) rfl)
    · obtain ⟨o', e1, e2, e3, e4, e5⟩ := o3
      obtain rfl := Option.some.inj (ho.symm.trans e1)
      have dp := dep_of' e5 hdep
      have V2 : a.tmps.getD 85 undef = .pointer (some ⟨x, 0, none⟩) := hI.val 2 85 (by decide) rfl (dp 2 (by decide))
      exact wpOp_value (v := .pointer (some ⟨x, 0, none⟩)) (w' := w) ho e4 (by simp [execOp, e3, ev, evc, V2]) (by rw [e2]; exact go rfl (by decide) rfl)
    · obtain ⟨o', e1, e2, e3, e4, e5⟩ := o4
      obtain rfl := Option.some.inj (ho.symm.trans e1)
      have dp := dep_of' e5 hdep
      have V3 : a.tmps.getD 86 undef = .pointer (some ⟨x, 0, none⟩) := hI.val 3 86 (by decide) rfl (dp 3 (by decide))
      exact wpOp_value (v := .pointer (some ⟨x, 3, none⟩)) (w' := w) ho e4 (by simp [execOp, e3, ev, evc, V3, x4 w]) (by rw [e2]; exact go rfl (by decide) rfl)
    · obtain ⟨o', e1, e2, e3, e4, e5⟩ := o5
      obtain rfl := Option.some.inj (ho.symm.trans e1)
      have dp := dep_of' e5 hdep
      have V4 : a.tmps.getD 87 undef = .pointer (some ⟨x, 3, none⟩) := hI.val 4 87 (by decide) rfl (dp 4 (by decide))
      have n21 : l 21 = false := by
        cases e : l 21 with
        | false => rfl
        | true =>
          exfalso
          have y0 := hcl.dep' o21 e 18 (by decide)
          have y1 := hcl.dep' o18 y0 13 (by decide)
          have y2 := hcl.dep' o13 y1 12 (by decide)
          have y3 := hcl.dep' o12 y2 5 (by decide)
          rw [hl] at y3
          cases y3
      exact wpOp_value (v := .slice sa L1 c) (w' := w) ho e4 (by simp [execOp, e3, ev, evc, V4, x5 l w hw n21]) (by rw [e2]; exact go rfl (by decide) rfl)
    · obtain ⟨o', e1, e2, e3, e4, e5⟩ := o6
      obtain rfl := Option.some.inj (ho.symm.trans e1)
      have dp := dep_of' e5 hdep
      have U0 : a.tmps.getD 0 undef = .pointer (some ⟨x, 0, none⟩) := (kp 0 (by decide)).trans u0
      exact wpOp_value (v := .pointer (some ⟨x, 0, none⟩)) (w' := w) ho e4 (by simp [execOp, e3, ev, evc, U0]) (by rw [e2]; exact go rfl (by decide) rfl)
    · obtain ⟨o', e1, e2, e3, e4, e5⟩ := o7
      obtain rfl := Option.some.inj (ho.symm.trans e1)
      have dp := dep_of' e5 hdep
      have V6 : a.tmps.getD 89 undef = .pointer (some ⟨x, 0, none⟩) := hI.val 6 89 (by decide) rfl (dp 6 (by decide))
      exact wpOp_value (v := .pointer (some ⟨x, 0, none⟩)) (w' := w) ho e4 (by simp [execOp, e3, ev, evc, V6]) (by rw [e2]; exact go rfl (by decide) rfl)
    · obtain ⟨o', e1, e2, e3, e4, e5⟩ := o8
      obtain rfl := Option.some.inj (ho.symm.trans e1)
      have dp := dep_of' e5 hdep
      have V7 : a.tmps.getD 90 undef = .pointer (some ⟨x, 0, none⟩) := hI.val 7 90 (by decide) rfl (dp 7 (by decide))
      exact wpOp_value (v := .pointer (some ⟨x, 3, none⟩)) (w' := w) ho e4 (by simp [execOp, e3, ev, evc, V7, x8 w]) (by rw [e2]; exact go rfl (by decide) rfl)
    · obtain ⟨o', e1, e2, e3, e4, e5⟩ := o9
      obtain rfl := Option.some.inj (ho.symm.trans e1)
      have dp := dep_of' e5 hdep
      have V8 : a.tmps.getD 91 undef = .pointer (some ⟨x, 3, none⟩) := hI.val 8 91 (by decide) rfl (dp 8 (by decide))
      have n21 : l 21 = false := by
        cases e : l 21 with
        | false => rfl
        | true =>
          exfalso
          have y0 := hcl.dep' o21 e 18 (by decide)
          have y1 := hcl.dep' o18 y0 13 (by decide)
          have y2 := hcl.dep' o13 y1 12 (by decide)
          have y3 := hcl.dep' o12 y2 11 (by decide)
          have y4 := hcl.dep' o11 y3 10 (by decide)
          have y5 := hcl.dep' o10 y4 9 (by decide)
          rw [hl] at y5
          cases y5
      exact wpOp_value (v := .slice sa L1 c) (w' := w) ho e4 (by simp [execOp, e3, ev, evc, V8, x9 l w hw n21]) (by rw [e2]; exact go rfl (by decide) rfl)
    · obtain ⟨o', e1, e2, e3, e4, e5⟩ := o10
      obtain rfl := Option.some.inj (ho.symm.trans e1)
      have dp := dep_of' e5 hdep
      have V9 : a.tmps.getD 92 undef = .slice sa L1 c := hI.val 9 92 (by decide) rfl (dp 9 (by decide))
      exact wpOp_value (v := .int .i64 (L1 : Nat)) (w' := w) ho e4 (by simp [execOp, e3, ev, evc, V9, builtin, resolve, invoke, goInt, Builtin.len_, run_underlying Try.underlying49]) (by rw [e2]; exact go rfl (by decide) rfl)
    · obtain ⟨o', e1, e2, e3, e4, e5⟩ := o11
      obtain rfl := Option.some.inj (ho.symm.trans e1)
      have dp := dep_of' e5 hdep
      have V10 : a.tmps.getD 93 undef = .int .i64 (L1 : Nat) := hI.val 10 93 (by decide) rfl (dp 10 (by decide))
      exact wpOp_value (v := .int .i64 (L : Nat)) (w' := w) ho e4 (by simp [execOp, e3, ev, evc, V10, x11 w, eqGuard]) (by rw [e2]; exact go rfl (by decide) rfl)
    · obtain ⟨o', e1, e2, e3, e4, e5⟩ := o12
      obtain rfl := Option.some.inj (ho.symm.trans e1)
      have dp := dep_of' e5 hdep
      have V5 : a.tmps.getD 88 undef = .slice sa L1 c := hI.val 5 88 (by decide) rfl (dp 5 (by decide))
      have V11 : a.tmps.getD 94 undef = .int .i64 (L : Nat) := hI.val 11 94 (by decide) rfl (dp 11 (by decide))
      exact wpOp_value (v := .slice sa L c) (w' := w) ho e4 (by simp [execOp, e3, ev, evc, V5, V11, x12 w]) (by rw [e2]; exact go rfl (by decide) rfl)
    · obtain ⟨o', e1, e2, e3, e4, e5⟩ := o13
      obtain rfl := Option.some.inj (ho.symm.trans e1)
      have dp := dep_of' e5 hdep
      obtain ⟨g0, V1, f1⟩ : ∃ g0, a.tmps.getD 84 undef = .slice (some ⟨g0, 0, none⟩) 0 0 ∧ (l 18 = false → w0s ≤ g0 ∧ w.heap[g0]? = some (.cells #[] 3 (0, 0))) := hI.val 1 84 (by decide) rfl (dp 1 (by decide))
      have V12 : a.tmps.getD 95 undef = .slice sa L c := hI.val 12 95 (by decide) rfl (dp 12 (by decide))
      have n18 : l 18 = false := by
        cases e : l 18 with
        | false => rfl
        | true =>
          exfalso
          have y0 := hcl.dep' o18 e 13 (by decide)
          rw [hl] at y0
          cases y0
      have n21 : l 21 = false := by
        cases e : l 21 with
        | false => rfl
        | true =>
          exfalso
          have y0 := hcl.dep' o21 e 18 (by decide)
          have y1 := hcl.dep' o18 y0 13 (by decide)
          rw [hl] at y1
          cases y1
      obtain ⟨f1, f2⟩ := f1 n18
      have hlw := (hw.1 n21).size
      obtain ⟨ca, cc, W2, hap, hrow, -, hb1⟩ := run_copyE (c := c) f2 f1 (by rw [hw0s]; exact hlw) (hrd w (hw.1 n21)) hn
      refine wpOp_value (v := .slice ca L cc) (w' := W2) ho e4 (by simp only [execOp, e3, resolve, invoke, builtin, Sem.run_bind, Sem.run_pure, Result.andThen_ok, List.map_toArray, List.map_cons, List.map_nil, ev , V1, V12, hty13 _ ho, hap]) ?_
      rw [e2]
      refine hI.put hi rfl (Nat.lt_of_lt_of_le (by decide) hs) (inj 96 rfl) ?_ ?_ (fun j u _ _ _ hf => rbF_below hf hb1 (oth 18 (by decide)) (oth 21 (by decide)))
      · show rbS x L L1 c p1 w0s sa y1 Y P Fin w0 _ _
        unfold rbS at hw ⊢
        dsimp only
        rw [oth 21 (by decide)]
        exact ⟨fun _ => below_then (hw.1 n21) hb1, fun h => by rw [n21] at h; cases h⟩
      · exact ⟨_, _, rfl, fun _ => hrow⟩
    · obtain ⟨o', e1, e2, e3, e4, e5⟩ := o14
      obtain rfl := Option.some.inj (ho.symm.trans e1)
      have dp := dep_of' e5 hdep
      have U5 : a.tmps.getD 5 undef = .slice (some y1) 1 p1 := (kp 5 (by decide)).trans u5
      exact wpOp_value (v := .slice (some y1) 1 p1) (w' := w) ho e4 (by simp [execOp, e3, ev, evc, U5]) (by rw [e2]; exact go rfl (by decide) rfl)
    · obtain ⟨o', e1, e2, e3, e4, e5⟩ := o15
      obtain rfl := Option.some.inj (ho.symm.trans e1)
      have dp := dep_of' e5 hdep
      have V14 : a.tmps.getD 97 undef = .slice (some y1) 1 p1 := hI.val 14 97 (by decide) rfl (dp 14 (by decide))
      exact wpOp_value (v := .pointer (some (y1.add 0))) (w' := w) ho e4 (by simp [execOp, e3, ev, evc, V14, x15 w]) (by rw [e2]; exact go rfl (by decide) rfl)
    · obtain ⟨o', e1, e2, e3, e4, e5⟩ := o16
      obtain rfl := Option.some.inj (ho.symm.trans e1)
      have dp := dep_of' e5 hdep
      have V15 : a.tmps.getD 98 undef = .pointer (some (y1.add 0)) := hI.val 15 98 (by decide) rfl (dp 15 (by decide))
      have n21 : l 21 = false := by
        cases e : l 21 with
        | false => rfl
        | true =>
          exfalso
          have y0 := hcl.dep' o21 e 18 (by decide)
          have y1 := hcl.dep' o18 y0 17 (by decide)
          have y2 := hcl.dep' o17 y1 16 (by decide)
          rw [hl] at y2
          cases y2
      exact wpOp_value (v := .int .i64 Y) (w' := w) ho e4 (by simp [execOp, e3, ev, evc, V15, x16 l w hw n21]) (by rw [e2]; exact go rfl (by decide) rfl)
    · obtain ⟨o', e1, e2, e3, e4, e5⟩ := o17
      obtain rfl := Option.some.inj (ho.symm.trans e1)
      have dp := dep_of' e5 hdep
      have V16 : a.tmps.getD 99 undef = .int .i64 Y := hI.val 16 99 (by decide) rfl (dp 16 (by decide))
      have n18 : l 18 = false := by
        cases e : l 18 with
        | false => rfl
        | true =>
          exfalso
          have y0 := hcl.dep' o18 e 17 (by decide)
          rw [hl] at y0
          cases y0
      have n21 : l 21 = false := by
        cases e : l 21 with
        | false => rfl
        | true =>
          exfalso
          have y0 := hcl.dep' o21 e 18 (by decide)
          have y1 := hcl.dep' o18 y0 17 (by decide)
          rw [hl] at y1
          cases y1
      have hb1 := below_new (Below.refl w.heap.size w) (.cells #[.int .i64 Y] 3)
      refine wpOp_value (v := .slice (some ⟨w.heap.size, 0, none⟩) 1 1) (w' := w.alloc (.cells #[.int .i64 Y] 3)) ho e4 (by simp [execOp, e3, ev , V16, run_build49v]) ?_
      rw [e2]
      refine hI.put hi rfl (Nat.lt_of_lt_of_le (by decide) hs) (inj 100 rfl) ?_ ?_ (fun j u _ _ _ hf => rbF_below hf hb1 (oth 18 (by decide)) (oth 21 (by decide)))
      · show rbS x L L1 c p1 w0s sa y1 Y P Fin w0 _ _
        unfold rbS at hw ⊢
        dsimp only
        rw [oth 21 (by decide)]
        exact ⟨fun _ => below_then (hw.1 n21) hb1, fun h => by rw [n21] at h; cases h⟩
      · exact ⟨_, rfl, fun _ => by unfold World.cell?; rw [heap_alloc_new]; rfl⟩
    · obtain ⟨o', e1, e2, e3, e4, e5⟩ := o18
      obtain rfl := Option.some.inj (ho.symm.trans e1)
      have dp := dep_of' e5 hdep
      obtain ⟨ca13, cc13, V13, f13⟩ : ∃ ca cc, a.tmps.getD 96 undef = .slice ca L cc ∧ (l 18 = false → RowI w0s w ca L cc P) := hI.val 13 96 (by decide) rfl (dp 13 (by decide))
      obtain ⟨g1, V17, f17⟩ : ∃ g1, a.tmps.getD 100 undef = .slice (some ⟨g1, 0, none⟩) 1 1 ∧ (l 18 = false → w.cell? ⟨g1, 0, none⟩ = some (.int .i64 Y)) := hI.val 17 100 (by decide) rfl (dp 17 (by decide))
      have n21 : l 21 = false := by
        cases e : l 21 with
        | false => rfl
        | true =>
          exfalso
          have y0 := hcl.dep' o21 e 18 (by decide)
          rw [hl] at y0
          cases y0
      have hlw := (hw.1 n21).size
      obtain ⟨ca, cc, W2, hap, hrow, hb1⟩ := run_append2 (f13 hl) (by rw [hw0s]; exact hlw) hn (f17 hl) hY
      refine wpOp_value (v := .slice ca (L + 1) cc) (w' := W2) ho e4 (by simp only [execOp, e3, resolve, invoke, builtin, Sem.run_bind, Sem.run_pure, Result.andThen_ok, List.map_toArray, List.map_cons, List.map_nil, ev , V13, V17, hty18 _ ho, hap]) ?_
      rw [e2]
      refine hI.put hi rfl (Nat.lt_of_lt_of_le (by decide) hs) (inj 101 rfl) ?_ ?_ (fun j u _ _ hne hf => rbF_late hf hne sam (oth 21 (by decide)))
      · show rbS x L L1 c p1 w0s sa y1 Y P Fin w0 _ _
        unfold rbS at hw ⊢
        dsimp only
        rw [oth 21 (by decide)]
        exact ⟨fun _ => (hw.1 n21).trans (by rw [hw0s] at hb1; exact hb1), fun h => by rw [n21] at h; cases h⟩
      · exact ⟨_, _, rfl, fun _ => hrow⟩
    · obtain ⟨o', e1, e2, e3, e4, e5⟩ := o19
      obtain rfl := Option.some.inj (ho.symm.trans e1)
      have dp := dep_of' e5 hdep
      have V0 : a.tmps.getD 83 undef = .pointer (some ⟨x, 0, none⟩) := hI.val 0 83 (by decide) rfl (dp 0 (by decide))
      exact wpOp_value (v := .pointer (some ⟨x, 0, none⟩)) (w' := w) ho e4 (by simp [execOp, e3, ev, evc, V0]) (by rw [e2]; exact go rfl (by decide) rfl)
    · obtain ⟨o', e1, e2, e3, e4, e5⟩ := o20
      obtain rfl := Option.some.inj (ho.symm.trans e1)
      have dp := dep_of' e5 hdep
      have V19 : a.tmps.getD 102 undef = .pointer (some ⟨x, 0, none⟩) := hI.val 19 102 (by decide) rfl (dp 19 (by decide))
      exact wpOp_value (v := .pointer (some ⟨x, 3, none⟩)) (w' := w) ho e4 (by simp [execOp, e3, ev, evc, V19, x20 w]) (by rw [e2]; exact go rfl (by decide) rfl)
    · obtain ⟨o', e1, e2, e3, e4, e5⟩ := o21
      obtain rfl := Option.some.inj (ho.symm.trans e1)
      have dp := dep_of' e5 hdep
      obtain ⟨cb18, cd18, V18, f18⟩ : ∃ ca cc, a.tmps.getD 101 undef = .slice ca (L + 1) cc ∧ (l 21 = false → RowI w0s w ca (L + 1) cc (P ++ [Y])) := hI.val 18 101 (by decide) rfl (dp 18 (by decide))
      have V20 : a.tmps.getD 103 undef = .pointer (some ⟨x, 3, none⟩) := hI.val 20 103 (by decide) rfl (dp 20 (by decide))
      obtain ⟨hrn, hfn⟩ := hst w cb18 cd18 (hw.1 hl) (f18 hl)
      refine wpOp_skip (w' := w.setCell ⟨x, 3, none⟩ (.slice cb18 (L + 1) cd18)) ho e4 (by simp [execOp, e3, ev , V18, V20, hrn]) ?_
      rw [e2]
      refine hI.none_ rfl ?_ (fun j u _ _ hne hf => rbF_end hf (oth 18 (by decide)) sam (dp 18 (by decide)))
      show rbS x L L1 c p1 w0s sa y1 Y P Fin w0 _ _
      unfold rbS
      dsimp only
      rw [sam]
      exact ⟨(fun h => by cases h), fun _ => hfn⟩
  · intro l a w hall hI
    have all : ∀ j, j < 22 → l j = true := fun j hj => hall j (by rw [hsz]; exact hj)
    exact fin l a w all hI.size hI.defers hI.kept hI.world (fun i d hi hD => hI.val i d hi hD (all i hi))
end

/- The regions in which the document lays a number into a page. -/
section
open Go.ChangeShapes Go.WideShapes Go.ChangeAt Go.RowKit
set_option linter.unusedVariables false
set_option linter.unusedSimpArgs false

def rpD (i : Nat) : Option Nat := match i with | 0 => some 67 | 1 => some 68 | 2 => some 69 | 3 => some 70 | 4 => some 71 | 5 => some 72 | 6 => some 73 | 7 => some 74 | 8 => some 75 | 9 => some 76 | _ => none
theorem rpD_inj : ∀ i, i < 10 → ∀ j, j < 10 → rpD i = rpD j → rpD i ≠ none → i = j := by decide
theorem rpD_lt : ∀ i, i < 10 → ∀ d, rpD i = some d → d < 77 := by
  intro i hi d h
  have : ∀ i, i < 10 → (rpD i).all (fun d => decide (d < 77)) = true := by decide
  have := this i hi
  rw [h] at this
  simpa using this
def rpF (x b p1 : Nat) (y1 : Addr) (Y k V : Int) (Fin : World → Prop) (l : Nat → Bool) (i : Nat) (q : Value) (w : World) : Prop := match i with
  | 0 => q = .pointer (some ⟨x, 0, none⟩)
  | 1 => q = .pointer (some ⟨x, 0, none⟩)
  | 2 => q = .pointer (some ⟨x, 0, none⟩)
  | 3 => q = .pointer (some ⟨b, 0, none⟩)
  | 4 => q = .slice (some y1) 1 p1
  | 5 => q = .pointer (some (y1.add 0))
  | 6 => q = .int .i64 Y
  | 7 => q = .int .i64 k
  | 8 => q = .int .i64 V
  | 9 => True
  | _ => True
def rpS (x b p1 : Nat) (y1 : Addr) (Y k V : Int) (Fin : World → Prop) (w0 : World) (l : Nat → Bool) (w : World) : Prop := (l 9 = false → w = w0.drew) ∧ (l 9 = true → Fin w)

set_option maxHeartbeats 8000000 in
theorem rp_region {id : Nat} {ops : Array Oper} {Q : Exit → Act → World → Prop} {a0 : Act} {w0 : World} (x b p1 : Nat) (y1 : Addr) (Y k V : Int) (Fin : World → Prop) (hlow : lowB ops = true) (hsz : ops.size = 10)
    (o0 : OpIn ops 0 (some 67) (.move (.tmp 0)) none []) (o1 : OpIn ops 1 (some 68) (.nilCheck (.tmp 67)) none [0]) (o2 : OpIn ops 2 (some 69) (.fieldAddr 51 (.tmp 68) 0) none [1]) (o3 : OpIn ops 3 (some 70) (.load 28 (.tmp 69)) none [2]) (o4 : OpIn ops 4 (some 71) (.move (.tmp 5)) none []) (o5 : OpIn ops 5 (some 72) (.indexAddr 49 (.tmp 71) (.const (.int .i64 0))) none [4]) (o6 : OpIn ops 6 (some 73) (.load 3 (.tmp 72)) none [5]) (o7 : OpIn ops 7 (some 74) (.move (.tmp 8)) none []) (o8 : OpIn ops 8 (some 75) (.move (.tmp 9)) none []) (o9 : OpIn ops 9 (some 76) (.call { callee := .value (.func 38), args := #[.tmp 70, .tmp 73, .tmp 74, .tmp 75], argTypes := #[28, 3, 3, 2] }) none [3, 6, 7, 8])
    (hS : rpS x b p1 y1 Y k V Fin w0 (fun _ => false) w0.drew)
    (x2 : ∀ w, (Instr.fieldAt 51 (.pointer (some ⟨x, 0, none⟩)) 0).run Try.prog w = .ok (.pointer (some ⟨x, 0, none⟩)) w)
    (x3 : ∀ l w, rpS x b p1 y1 Y k V Fin w0 l w → l 9 = false → (Instr.loadAt 28 (.pointer (some ⟨x, 0, none⟩))).run Try.prog w = .ok (.pointer (some ⟨b, 0, none⟩)) w)
    (x5 : ∀ w, (Instr.indexAt 49 (.slice (some y1) 1 p1) (.int .i64 0)).run Try.prog w = .ok (.pointer (some (y1.add 0))) w)
    (x6 : ∀ l w, rpS x b p1 y1 Y k V Fin w0 l w → l 9 = false → (Instr.loadAt 3 (.pointer (some (y1.add 0)))).run Try.prog w = .ok (.int .i64 Y) w)
    (u0 : a0.tmps.getD 0 undef = .pointer (some ⟨x, 0, none⟩))
    (u5 : a0.tmps.getD 5 undef = .slice (some y1) 1 p1)
    (u8 : a0.tmps.getD 8 undef = .int .i64 k)
    (u9 : a0.tmps.getD 9 undef = .int .i64 V)
    (hcall : ∀ w, w = w0.drew → Calls Try.prog 38 #[.pointer (some ⟨b, 0, none⟩), .int .i64 Y, .int .i64 k, .int .i64 V] w fun e W' => ∃ v, e = .returned v ∧ Fin W')
    (hs : 77 ≤ a0.tmps.size)
    (fin : ∀ l a w, (∀ j, j < 10 → l j = true) → a.tmps.size = a0.tmps.size → a.defers = a0.defers → (∀ s, (∀ i, i < 10 → rpD i ≠ some s) → a.tmps.getD s undef = a0.tmps.getD s undef) → rpS x b p1 y1 Y k V Fin w0 l w → (∀ i d, i < 10 → rpD i = some d → rpF x b p1 y1 Y k V Fin l i (a.tmps.getD d undef) w) → Q .normal a w) : (Code.region id ops true).wp Try.prog Q a0 w0 := by
  have r38 : ∀ args w, (callFunc 38 args).run Try.prog w = .ok (.enter 38 args) w := enters_of Try.func38 (by kernel_rfl) rfl
  refine wp_region_inv2 (by kernel_rfl) hlow (Inv 10 rpD a0 (fun l _ w => rpS x b p1 y1 Y k V Fin w0 l w) (rpF x b p1 y1 Y k V Fin)) (Inv.start hS) ?_ ?_
  · intro l i o a w ho hl hcl hdep hI
    have hi : i < 10 := by rw [← hsz]; exact (Array.getElem?_eq_some_iff.1 ho).1
    have ev : ∀ (s : Nat), a.eval (.tmp s) = a.tmps.getD s undef := fun _ => rfl
    have evf : ∀ f, a.eval (.func f) = .func (.func f) #[] #[] := fun _ => rfl
    have evc : ∀ c : Value, a.eval (.const c) = c := fun _ => rfl
    have inj : ∀ d, rpD i = some d → ∀ j d', j < 10 → rpD j = some d' → j ≠ i → d' ≠ d := fun d hd j d' hj hd' hne e => hne (rpD_inj j hj i hi (by rw [hd', hd, e]) (by rw [hd']; simp))
    have kp : ∀ s, (∀ i, i < 10 → rpD i ≠ some s) → a.tmps.getD s undef = a0.tmps.getD s undef := hI.kept
    have hw : rpS x b p1 y1 Y k V Fin w0 l w := hI.world
    have oth : ∀ j, j ≠ i → (l j || j == i) = l j := fun j hj => by rw [show (j == i) = false by simp [hj], Bool.or_false]
    have sam : (l i || i == i) = true := by simp
    have go : ∀ {d : Nat} {v : Value}, rpD i = some d → (i ≠ 9) → rpF x b p1 y1 Y k V Fin (fun j => l j || j == i) i v w → Inv 10 rpD a0 (fun l _ w => rpS x b p1 y1 Y k V Fin w0 l w) (rpF x b p1 y1 Y k V Fin) (fun j => l j || j == i) (a.put (some d) v) w := by
      intro d v hD hn hF
      refine hI.put hi hD (Nat.lt_of_lt_of_le (rpD_lt i hi d hD) hs) (inj d hD) ?_ hF (fun j u _ _ _ hf => ?_)
      · show rpS x b p1 y1 Y k V Fin w0 _ w
        unfold rpS at hw ⊢
        dsimp only
        rw [oth 9 (by omega)]
        exact hw
      · unfold rpF at hf ⊢
        skip
        exact hf
    rcases (show i = 0 ∨ i = 1 ∨ i = 2 ∨ i = 3 ∨ i = 4 ∨ i = 5 ∨ i = 6 ∨ i = 7 ∨ i = 8 ∨ i = 9 by omega) with rfl | rfl | rfl | rfl | rfl | rfl | rfl | rfl | rfl | rfl
    · obtain ⟨o', e1, e2, e3, e4, e5⟩ := o0
      obtain rfl := Option.some.inj (ho.symm.trans e1)
      have dp := dep_of' e5 hdep
      have U0 : a.tmps.getD 0 undef = .pointer (some ⟨x, 0, none⟩) := (kp 0 (by decide)).trans u0
      exact wpOp_value (v := .pointer (some ⟨x, 0, none⟩)) (w' := w) ho e4 (by simp [execOp, e3, ev, evc, U0]) (by rw [e2]; exact go rfl (by decide) rfl)
    · obtain ⟨o', e1, e2, e3, e4, e5⟩ := o1
      obtain rfl := Option.some.inj (ho.symm.trans e1)
      have dp := dep_of' e5 hdep
      have V0 : a.tmps.getD 67 undef = .pointer (some ⟨x, 0, none⟩) := hI.val 0 67 (by decide) rfl (dp 0 (by decide))
      exact wpOp_value (v := .pointer (some ⟨x, 0, none⟩)) (w' := w) ho e4 (by simp [execOp, e3, ev, evc, V0]) (by rw [e2]; exact go rfl (by decide) rfl)
    · obtain ⟨o', e1, e2, e3, e4, e5⟩ := o2
      obtain rfl := Option.some.inj (ho.symm.trans e1)
      have dp := dep_of' e5 hdep
      have V1 : a.tmps.getD 68 undef = .pointer (some ⟨x, 0, none⟩) := hI.val 1 68 (by decide) rfl (dp 1 (by decide))
      exact wpOp_value (v := .pointer (some ⟨x, 0, none⟩)) (w' := w) ho e4 (by simp [execOp, e3, ev, evc, V1, x2 w]) (by rw [e2]; exact go rfl (by decide) rfl)
    · obtain ⟨o', e1, e2, e3, e4, e5⟩ := o3
      obtain rfl := Option.some.inj (ho.symm.trans e1)
      have dp := dep_of' e5 hdep
      have V2 : a.tmps.getD 69 undef = .pointer (some ⟨x, 0, none⟩) := hI.val 2 69 (by decide) rfl (dp 2 (by decide))
      have n9 : l 9 = false := by
        cases e : l 9 with
        | false => rfl
        | true =>
          exfalso
          have y0 := hcl.dep' o9 e 3 (by decide)
          rw [hl] at y0
          cases y0
      exact wpOp_value (v := .pointer (some ⟨b, 0, none⟩)) (w' := w) ho e4 (by simp [execOp, e3, ev, evc, V2, x3 l w hw n9]) (by rw [e2]; exact go rfl (by decide) rfl)
    · obtain ⟨o', e1, e2, e3, e4, e5⟩ := o4
      obtain rfl := Option.some.inj (ho.symm.trans e1)
      have dp := dep_of' e5 hdep
      have U5 : a.tmps.getD 5 undef = .slice (some y1) 1 p1 := (kp 5 (by decide)).trans u5
      exact wpOp_value (v := .slice (some y1) 1 p1) (w' := w) ho e4 (by simp [execOp, e3, ev, evc, U5]) (by rw [e2]; exact go rfl (by decide) rfl)
    · obtain ⟨o', e1, e2, e3, e4, e5⟩ := o5
      obtain rfl := Option.some.inj (ho.symm.trans e1)
      have dp := dep_of' e5 hdep
      have V4 : a.tmps.getD 71 undef = .slice (some y1) 1 p1 := hI.val 4 71 (by decide) rfl (dp 4 (by decide))
      exact wpOp_value (v := .pointer (some (y1.add 0))) (w' := w) ho e4 (by simp [execOp, e3, ev, evc, V4, x5 w]) (by rw [e2]; exact go rfl (by decide) rfl)
    · obtain ⟨o', e1, e2, e3, e4, e5⟩ := o6
      obtain rfl := Option.some.inj (ho.symm.trans e1)
      have dp := dep_of' e5 hdep
      have V5 : a.tmps.getD 72 undef = .pointer (some (y1.add 0)) := hI.val 5 72 (by decide) rfl (dp 5 (by decide))
      have n9 : l 9 = false := by
        cases e : l 9 with
        | false => rfl
        | true =>
          exfalso
          have y0 := hcl.dep' o9 e 6 (by decide)
          rw [hl] at y0
          cases y0
      exact wpOp_value (v := .int .i64 Y) (w' := w) ho e4 (by simp [execOp, e3, ev, evc, V5, x6 l w hw n9]) (by rw [e2]; exact go rfl (by decide) rfl)
    · obtain ⟨o', e1, e2, e3, e4, e5⟩ := o7
      obtain rfl := Option.some.inj (ho.symm.trans e1)
      have dp := dep_of' e5 hdep
      have U8 : a.tmps.getD 8 undef = .int .i64 k := (kp 8 (by decide)).trans u8
      exact wpOp_value (v := .int .i64 k) (w' := w) ho e4 (by simp [execOp, e3, ev, evc, U8]) (by rw [e2]; exact go rfl (by decide) rfl)
    · obtain ⟨o', e1, e2, e3, e4, e5⟩ := o8
      obtain rfl := Option.some.inj (ho.symm.trans e1)
      have dp := dep_of' e5 hdep
      have U9 : a.tmps.getD 9 undef = .int .i64 V := (kp 9 (by decide)).trans u9
      exact wpOp_value (v := .int .i64 V) (w' := w) ho e4 (by simp [execOp, e3, ev, evc, U9]) (by rw [e2]; exact go rfl (by decide) rfl)
    · obtain ⟨o', e1, e2, e3, e4, e5⟩ := o9
      obtain rfl := Option.some.inj (ho.symm.trans e1)
      have dp := dep_of' e5 hdep
      have V3 : a.tmps.getD 70 undef = .pointer (some ⟨b, 0, none⟩) := hI.val 3 70 (by decide) rfl (dp 3 (by decide))
      have V6 : a.tmps.getD 73 undef = .int .i64 Y := hI.val 6 73 (by decide) rfl (dp 6 (by decide))
      have V7 : a.tmps.getD 74 undef = .int .i64 k := hI.val 7 74 (by decide) rfl (dp 7 (by decide))
      have V8 : a.tmps.getD 75 undef = .int .i64 V := hI.val 8 75 (by decide) rfl (dp 8 (by decide))
      refine wpOp_call (f := 38) (args := #[.pointer (some ⟨b, 0, none⟩), .int .i64 Y, .int .i64 k, .int .i64 V]) ho e4 (by simp [execOp, e3, resolve, invoke, Deferred.ofValue, r38, ev, evf, evc, V3, V6, V7, V8]) ((hcall w (hw.1 hl)).mono ?_)
      rintro e W' ⟨v, rfl, hF⟩
      refine ⟨_, rfl, ?_⟩
      rw [e2]
      refine hI.put hi rfl (Nat.lt_of_lt_of_le (by decide) hs) (inj 76 rfl) ?_ trivial (fun j u _ _ hne hf => by unfold rpF at hf ⊢; exact hf)
      show rpS x b p1 y1 Y k V Fin w0 _ _
      unfold rpS
      dsimp only
      rw [sam]
      exact ⟨(fun h => by cases h), fun _ => hF⟩
  · intro l a w hall hI
    have all : ∀ j, j < 10 → l j = true := fun j hj => hall j (by rw [hsz]; exact hj)
    exact fin l a w all hI.size hI.defers hI.kept hI.world (fun i d hi hD => hI.val i d hi hD (all i hi))

def rqD (i : Nat) : Option Nat := match i with | 0 => some 161 | 1 => some 162 | 2 => some 163 | 3 => some 164 | 4 => some 165 | 5 => some 166 | 6 => some 167 | 7 => some 168 | 8 => some 169 | 9 => some 170 | 10 => some 171 | 11 => some 172 | 12 => some 173 | _ => none
theorem rqD_inj : ∀ i, i < 13 → ∀ j, j < 13 → rqD i = rqD j → rqD i ≠ none → i = j := by decide
theorem rqD_lt : ∀ i, i < 13 → ∀ d, rqD i = some d → d < 174 := by
  intro i hi d h
  have : ∀ i, i < 13 → (rqD i).all (fun d => decide (d < 174)) = true := by decide
  have := this i hi
  rw [h] at this
  simpa using this
def rqF (x b wd rc k : Nat) (y : Addr) (Z C CK V : Int) (Fin : World → Prop) (l : Nat → Bool) (i : Nat) (q : Value) (w : World) : Prop := match i with
  | 0 => q = .pointer (some ⟨x, 0, none⟩)
  | 1 => q = .pointer (some ⟨x, 0, none⟩)
  | 2 => q = .pointer (some ⟨x, 0, none⟩)
  | 3 => q = .pointer (some ⟨b, 0, none⟩)
  | 4 => q = .int .i64 Z
  | 5 => q = .int .i64 C
  | 6 => q = .int .i64 (k : Nat)
  | 7 => q = .int .i64 CK
  | 8 => q = .slice (some y) wd rc
  | 9 => q = .int .i64 (k : Nat)
  | 10 => q = .pointer (some (y.add k))
  | 11 => q = .int .i64 V
  | 12 => True
  | _ => True
def rqS (x b wd rc k : Nat) (y : Addr) (Z C CK V : Int) (Fin : World → Prop) (w0 : World) (l : Nat → Bool) (w : World) : Prop := (l 12 = false → w = w0.drew) ∧ (l 12 = true → Fin w)

set_option maxHeartbeats 8000000 in
theorem rq_region {id : Nat} {ops : Array Oper} {Q : Exit → Act → World → Prop} {a0 : Act} {w0 : World} (x b wd rc k : Nat) (y : Addr) (Z C CK V : Int) (Fin : World → Prop) (hlow : lowB ops = true) (hsz : ops.size = 13)
    (o0 : OpIn ops 0 (some 161) (.move (.tmp 0)) none []) (o1 : OpIn ops 1 (some 162) (.nilCheck (.tmp 161)) none [0]) (o2 : OpIn ops 2 (some 163) (.fieldAddr 51 (.tmp 162) 0) none [1]) (o3 : OpIn ops 3 (some 164) (.load 28 (.tmp 163)) none [2]) (o4 : OpIn ops 4 (some 165) (.move (.tmp 11)) none []) (o5 : OpIn ops 5 (some 166) (.move (.tmp 12)) none []) (o6 : OpIn ops 6 (some 167) (.move (.tmp 13)) none []) (o7 : OpIn ops 7 (some 168) (.binOp .add 3 (.tmp 166) (.tmp 167) 3) none [5, 6]) (o8 : OpIn ops 8 (some 169) (.move (.tmp 1)) none []) (o9 : OpIn ops 9 (some 170) (.move (.tmp 13)) none []) (o10 : OpIn ops 10 (some 171) (.indexAddr 39 (.tmp 169) (.tmp 170)) none [8, 9]) (o11 : OpIn ops 11 (some 172) (.load 2 (.tmp 171)) none [10]) (o12 : OpIn ops 12 (some 173) (.call { callee := .value (.func 38), args := #[.tmp 164, .tmp 165, .tmp 168, .tmp 172], argTypes := #[28, 3, 3, 2] }) none [3, 4, 7, 11])
    (hS : rqS x b wd rc k y Z C CK V Fin w0 (fun _ => false) w0.drew)
    (x2 : ∀ w, (Instr.fieldAt 51 (.pointer (some ⟨x, 0, none⟩)) 0).run Try.prog w = .ok (.pointer (some ⟨x, 0, none⟩)) w)
    (x3 : ∀ l w, rqS x b wd rc k y Z C CK V Fin w0 l w → l 12 = false → (Instr.loadAt 28 (.pointer (some ⟨x, 0, none⟩))).run Try.prog w = .ok (.pointer (some ⟨b, 0, none⟩)) w)
    (x7 : ∀ w, (binOp .add 3 (.int .i64 C) (.int .i64 (k : Nat))).run Try.prog w = .ok (.int .i64 CK) w)
    (x10 : ∀ w, (Instr.indexAt 39 (.slice (some y) wd rc) (.int .i64 (k : Nat))).run Try.prog w = .ok (.pointer (some (y.add k))) w)
    (x11 : ∀ l w, rqS x b wd rc k y Z C CK V Fin w0 l w → l 12 = false → (Instr.loadAt 2 (.pointer (some (y.add k)))).run Try.prog w = .ok (.int .i64 V) w)
    (u0 : a0.tmps.getD 0 undef = .pointer (some ⟨x, 0, none⟩))
    (u1 : a0.tmps.getD 1 undef = .slice (some y) wd rc)
    (u11 : a0.tmps.getD 11 undef = .int .i64 Z)
    (u12 : a0.tmps.getD 12 undef = .int .i64 C)
    (u13 : a0.tmps.getD 13 undef = .int .i64 (k : Nat))
    (hcall : ∀ w, w = w0.drew → Calls Try.prog 38 #[.pointer (some ⟨b, 0, none⟩), .int .i64 Z, .int .i64 CK, .int .i64 V] w fun e W' => ∃ v, e = .returned v ∧ Fin W')
    (hs : 174 ≤ a0.tmps.size)
    (fin : ∀ l a w, (∀ j, j < 13 → l j = true) → a.tmps.size = a0.tmps.size → a.defers = a0.defers → (∀ s, (∀ i, i < 13 → rqD i ≠ some s) → a.tmps.getD s undef = a0.tmps.getD s undef) → rqS x b wd rc k y Z C CK V Fin w0 l w → (∀ i d, i < 13 → rqD i = some d → rqF x b wd rc k y Z C CK V Fin l i (a.tmps.getD d undef) w) → Q .normal a w) : (Code.region id ops true).wp Try.prog Q a0 w0 := by
  have r38 : ∀ args w, (callFunc 38 args).run Try.prog w = .ok (.enter 38 args) w := enters_of Try.func38 (by kernel_rfl) rfl
  refine wp_region_inv2 (by kernel_rfl) hlow (Inv 13 rqD a0 (fun l _ w => rqS x b wd rc k y Z C CK V Fin w0 l w) (rqF x b wd rc k y Z C CK V Fin)) (Inv.start hS) ?_ ?_
  · intro l i o a w ho hl hcl hdep hI
    have hi : i < 13 := by rw [← hsz]; exact (Array.getElem?_eq_some_iff.1 ho).1
    have ev : ∀ (s : Nat), a.eval (.tmp s) = a.tmps.getD s undef := fun _ => rfl
    have evf : ∀ f, a.eval (.func f) = .func (.func f) #[] #[] := fun _ => rfl
    have evc : ∀ c : Value, a.eval (.const c) = c := fun _ => rfl
    have inj : ∀ d, rqD i = some d → ∀ j d', j < 13 → rqD j = some d' → j ≠ i → d' ≠ d := fun d hd j d' hj hd' hne e => hne (rqD_inj j hj i hi (by rw [hd', hd, e]) (by rw [hd']; simp))
    have kp : ∀ s, (∀ i, i < 13 → rqD i ≠ some s) → a.tmps.getD s undef = a0.tmps.getD s undef := hI.kept
    have hw : rqS x b wd rc k y Z C CK V Fin w0 l w := hI.world
    have oth : ∀ j, j ≠ i → (l j || j == i) = l j := fun j hj => by rw [show (j == i) = false by simp [hj], Bool.or_false]
    have sam : (l i || i == i) = true := by simp
    have go : ∀ {d : Nat} {v : Value}, rqD i = some d → (i ≠ 12) → rqF x b wd rc k y Z C CK V Fin (fun j => l j || j == i) i v w → Inv 13 rqD a0 (fun l _ w => rqS x b wd rc k y Z C CK V Fin w0 l w) (rqF x b wd rc k y Z C CK V Fin) (fun j => l j || j == i) (a.put (some d) v) w := by
      intro d v hD hn hF
      refine hI.put hi hD (Nat.lt_of_lt_of_le (rqD_lt i hi d hD) hs) (inj d hD) ?_ hF (fun j u _ _ _ hf => ?_)
      · show rqS x b wd rc k y Z C CK V Fin w0 _ w
        unfold rqS at hw ⊢
        dsimp only
        rw [oth 12 (by omega)]
        exact hw
      · unfold rqF at hf ⊢
        skip
        exact hf
    rcases (show i = 0 ∨ i = 1 ∨ i = 2 ∨ i = 3 ∨ i = 4 ∨ i = 5 ∨ i = 6 ∨ i = 7 ∨ i = 8 ∨ i = 9 ∨ i = 10 ∨ i = 11 ∨ i = 12 by omega) with rfl | rfl | rfl | rfl | rfl | rfl | rfl | rfl | rfl | rfl | rfl | rfl | rfl
    · obtain ⟨o', e1, e2, e3, e4, e5⟩ := o0
      obtain rfl := Option.some.inj (ho.symm.trans e1)
      have dp := dep_of' e5 hdep
      have U0 : a.tmps.getD 0 undef = .pointer (some ⟨x, 0, none⟩) := (kp 0 (by decide)).trans u0
      exact wpOp_value (v := .pointer (some ⟨x, 0, none⟩)) (w' := w) ho e4 (by simp [execOp, e3, ev, evc, U0]) (by rw [e2]; exact go rfl (by decide) rfl)
    · obtain ⟨o', e1, e2, e3, e4, e5⟩ := o1
      obtain rfl := Option.some.inj (ho.symm.trans e1)
      have dp := dep_of' e5 hdep
      have V0 : a.tmps.getD 161 undef = .pointer (some ⟨x, 0, none⟩) := hI.val 0 161 (by decide) rfl (dp 0 (by decide))
      exact wpOp_value (v := .pointer (some ⟨x, 0, none⟩)) (w' := w) ho e4 (by simp [execOp, e3, ev, evc, V0]) (by rw [e2]; exact go rfl (by decide) rfl)
    · obtain ⟨o', e1, e2, e3, e4, e5⟩ := o2
      obtain rfl := Option.some.inj (ho.symm.trans e1)
      have dp := dep_of' e5 hdep
      have V1 : a.tmps.getD 162 undef = .pointer (some ⟨x, 0, none⟩) := hI.val 1 162 (by decide) rfl (dp 1 (by decide))
      exact wpOp_value (v := .pointer (some ⟨x, 0, none⟩)) (w' := w) ho e4 (by simp [execOp, e3, ev, evc, V1, x2 w]) (by rw [e2]; exact go rfl (by decide) rfl)
    · obtain ⟨o', e1, e2, e3, e4, e5⟩ := o3
      obtain rfl := Option.some.inj (ho.symm.trans e1)
      have dp := dep_of' e5 hdep
      have V2 : a.tmps.getD 163 undef = .pointer (some ⟨x, 0, none⟩) := hI.val 2 163 (by decide) rfl (dp 2 (by decide))
      have n12 : l 12 = false := by
        cases e : l 12 with
        | false => rfl
        | true =>
          exfalso
          have y0 := hcl.dep' o12 e 3 (by decide)
          rw [hl] at y0
          cases y0
      exact wpOp_value (v := .pointer (some ⟨b, 0, none⟩)) (w' := w) ho e4 (by simp [execOp, e3, ev, evc, V2, x3 l w hw n12]) (by rw [e2]; exact go rfl (by decide) rfl)
    · obtain ⟨o', e1, e2, e3, e4, e5⟩ := o4
      obtain rfl := Option.some.inj (ho.symm.trans e1)
      have dp := dep_of' e5 hdep
      have U11 : a.tmps.getD 11 undef = .int .i64 Z := (kp 11 (by decide)).trans u11
      exact wpOp_value (v := .int .i64 Z) (w' := w) ho e4 (by simp [execOp, e3, ev, evc, U11]) (by rw [e2]; exact go rfl (by decide) rfl)
    · obtain ⟨o', e1, e2, e3, e4, e5⟩ := o5
      obtain rfl := Option.some.inj (ho.symm.trans e1)
      have dp := dep_of' e5 hdep
      have U12 : a.tmps.getD 12 undef = .int .i64 C := (kp 12 (by decide)).trans u12
      exact wpOp_value (v := .int .i64 C) (w' := w) ho e4 (by simp [execOp, e3, ev, evc, U12]) (by rw [e2]; exact go rfl (by decide) rfl)
    · obtain ⟨o', e1, e2, e3, e4, e5⟩ := o6
      obtain rfl := Option.some.inj (ho.symm.trans e1)
      have dp := dep_of' e5 hdep
      have U13 : a.tmps.getD 13 undef = .int .i64 (k : Nat) := (kp 13 (by decide)).trans u13
      exact wpOp_value (v := .int .i64 (k : Nat)) (w' := w) ho e4 (by simp [execOp, e3, ev, evc, U13]) (by rw [e2]; exact go rfl (by decide) rfl)
    · obtain ⟨o', e1, e2, e3, e4, e5⟩ := o7
      obtain rfl := Option.some.inj (ho.symm.trans e1)
      have dp := dep_of' e5 hdep
      have V5 : a.tmps.getD 166 undef = .int .i64 C := hI.val 5 166 (by decide) rfl (dp 5 (by decide))
      have V6 : a.tmps.getD 167 undef = .int .i64 (k : Nat) := hI.val 6 167 (by decide) rfl (dp 6 (by decide))
      exact wpOp_value (v := .int .i64 CK) (w' := w) ho e4 (by simp [execOp, e3, ev, evc, V5, V6, x7 w, eqGuard]) (by rw [e2]; exact go rfl (by decide) rfl)
    · obtain ⟨o', e1, e2, e3, e4, e5⟩ := o8
      obtain rfl := Option.some.inj (ho.symm.trans e1)
      have dp := dep_of' e5 hdep
      have U1 : a.tmps.getD 1 undef = .slice (some y) wd rc := (kp 1 (by decide)).trans u1
      exact wpOp_value (v := .slice (some y) wd rc) (w' := w) ho e4 (by simp [execOp, e3, ev, evc, U1]) (by rw [e2]; exact go rfl (by decide) rfl)
    · obtain ⟨o', e1, e2, e3, e4, e5⟩ := o9
      obtain rfl := Option.some.inj (ho.symm.trans e1)
      have dp := dep_of' e5 hdep
      have U13 : a.tmps.getD 13 undef = .int .i64 (k : Nat) := (kp 13 (by decide)).trans u13
      exact wpOp_value (v := .int .i64 (k : Nat)) (w' := w) ho e4 (by simp [execOp, e3, ev, evc, U13]) (by rw [e2]; exact go rfl (by decide) rfl)
    · obtain ⟨o', e1, e2, e3, e4, e5⟩ := o10
      obtain rfl := Option.some.inj (ho.symm.trans e1)
      have dp := dep_of' e5 hdep
      have V8 : a.tmps.getD 169 undef = .slice (some y) wd rc := hI.val 8 169 (by decide) rfl (dp 8 (by decide))
      have V9 : a.tmps.getD 170 undef = .int .i64 (k : Nat) := hI.val 9 170 (by decide) rfl (dp 9 (by decide))
      exact wpOp_value (v := .pointer (some (y.add k))) (w' := w) ho e4 (by simp [execOp, e3, ev, evc, V8, V9, x10 w]) (by rw [e2]; exact go rfl (by decide) rfl)
    · obtain ⟨o', e1, e2, e3, e4, e5⟩ := o11
      obtain rfl := Option.some.inj (ho.symm.trans e1)
      have dp := dep_of' e5 hdep
      have V10 : a.tmps.getD 171 undef = .pointer (some (y.add k)) := hI.val 10 171 (by decide) rfl (dp 10 (by decide))
      have n12 : l 12 = false := by
        cases e : l 12 with
        | false => rfl
        | true =>
          exfalso
          have y0 := hcl.dep' o12 e 11 (by decide)
          rw [hl] at y0
          cases y0
      exact wpOp_value (v := .int .i64 V) (w' := w) ho e4 (by simp [execOp, e3, ev, evc, V10, x11 l w hw n12]) (by rw [e2]; exact go rfl (by decide) rfl)
    · obtain ⟨o', e1, e2, e3, e4, e5⟩ := o12
      obtain rfl := Option.some.inj (ho.symm.trans e1)
      have dp := dep_of' e5 hdep
      have V3 : a.tmps.getD 164 undef = .pointer (some ⟨b, 0, none⟩) := hI.val 3 164 (by decide) rfl (dp 3 (by decide))
      have V4 : a.tmps.getD 165 undef = .int .i64 Z := hI.val 4 165 (by decide) rfl (dp 4 (by decide))
      have V7 : a.tmps.getD 168 undef = .int .i64 CK := hI.val 7 168 (by decide) rfl (dp 7 (by decide))
      have V11 : a.tmps.getD 172 undef = .int .i64 V := hI.val 11 172 (by decide) rfl (dp 11 (by decide))
      refine wpOp_call (f := 38) (args := #[.pointer (some ⟨b, 0, none⟩), .int .i64 Z, .int .i64 CK, .int .i64 V]) ho e4 (by simp [execOp, e3, resolve, invoke, Deferred.ofValue, r38, ev, evf, evc, V3, V4, V7, V11]) ((hcall w (hw.1 hl)).mono ?_)
      rintro e W' ⟨v, rfl, hF⟩
      refine ⟨_, rfl, ?_⟩
      rw [e2]
      refine hI.put hi rfl (Nat.lt_of_lt_of_le (by decide) hs) (inj 173 rfl) ?_ trivial (fun j u _ _ hne hf => by unfold rqF at hf ⊢; exact hf)
      show rqS x b wd rc k y Z C CK V Fin w0 _ _
      unfold rqS
      dsimp only
      rw [sam]
      exact ⟨(fun h => by cases h), fun _ => hF⟩
  · intro l a w hall hI
    have all : ∀ j, j < 13 → l j = true := fun j hj => hall j (by rw [hsz]; exact hj)
    exact fin l a w all hI.size hI.defers hI.kept hI.world (fun i d hi hD => hI.val i d hi hD (all i hi))

def rtD (i : Nat) : Option Nat := match i with | 0 => some 25 | 1 => some 26 | 2 => some 27 | 3 => some 28 | 4 => some 29 | 5 => some 30 | 6 => some 31 | 7 => some 32 | 8 => some 33 | 9 => some 24 | 10 => some 34 | 11 => some 35 | 12 => some 5 | 13 => some 6 | _ => none
theorem rtD_inj : ∀ i, i < 14 → ∀ j, j < 14 → rtD i = rtD j → rtD i ≠ none → i = j := by decide
theorem rtD_lt : ∀ i, i < 14 → ∀ d, rtD i = some d → d < 40 := by
  intro i hi d h
  have : ∀ i, i < 14 → (rtD i).all (fun d => decide (d < 40)) = true := by decide
  have := this i hi
  rw [h] at this
  simpa using this
def rtF (x b : Nat) (t : ByteArray) (E : Int) (R : Value → World → Prop) (l : Nat → Bool) (i : Nat) (q : Value) (w : World) : Prop := match i with
  | 0 => q = .pointer (some ⟨x, 0, none⟩)
  | 1 => q = .pointer (some ⟨x, 0, none⟩)
  | 2 => q = .pointer (some ⟨x, 0, none⟩)
  | 3 => q = .pointer (some ⟨b, 0, none⟩)
  | 4 => q = .pointer (some ⟨x, 0, none⟩)
  | 5 => q = .pointer (some ⟨x, 0, none⟩)
  | 6 => q = .pointer (some ⟨x, 1, none⟩)
  | 7 => q = .string t
  | 8 => ∃ v, q = .tuple #[v, .int .i64 E] ∧ R v w
  | 9 => ∃ v, q = .tuple #[v, .int .i64 E] ∧ R v w
  | 10 => ∃ v, q = v ∧ R v w
  | 11 => q = .int .i64 E
  | 12 => ∃ v, q = v ∧ R v w
  | 13 => q = .int .i64 E
  | _ => True
def rtS (x b : Nat) (t : ByteArray) (E : Int) (R : Value → World → Prop) (w0 : World) (l : Nat → Bool) (w : World) : Prop := (l 8 = false → w = w0.drew)

set_option maxHeartbeats 8000000 in
theorem rt_region {id : Nat} {ops : Array Oper} {Q : Exit → Act → World → Prop} {a0 : Act} {w0 : World} (x b : Nat) (t : ByteArray) (E : Int) (R : Value → World → Prop) (hlow : lowB ops = true) (hsz : ops.size = 14)
    (o0 : OpIn ops 0 (some 25) (.move (.tmp 0)) none []) (o1 : OpIn ops 1 (some 26) (.nilCheck (.tmp 25)) none [0]) (o2 : OpIn ops 2 (some 27) (.fieldAddr 51 (.tmp 26) 0) none [1]) (o3 : OpIn ops 3 (some 28) (.load 28 (.tmp 27)) none [2]) (o4 : OpIn ops 4 (some 29) (.move (.tmp 0)) none []) (o5 : OpIn ops 5 (some 30) (.nilCheck (.tmp 29)) none [4]) (o6 : OpIn ops 6 (some 31) (.fieldAddr 51 (.tmp 30) 1) none [5]) (o7 : OpIn ops 7 (some 32) (.load 9 (.tmp 31)) none [6]) (o8 : OpIn ops 8 (some 33) (.call { callee := .value (.func 35), args := #[.tmp 28, .tmp 32, .const (.int .i64 1)], argTypes := #[28, 9, 3] }) none [3, 7]) (o9 : OpIn ops 9 (some 24) (.move (.tmp 33)) none [8]) (o10 : OpIn ops 10 (some 34) (.extract (.tmp 24) 0) none [9]) (o11 : OpIn ops 11 (some 35) (.extract (.tmp 24) 1) none [9]) (o12 : OpIn ops 12 (some 5) (.assign (.tmp 34)) none [10]) (o13 : OpIn ops 13 (some 6) (.assign (.tmp 35)) none [11])
    (hS : rtS x b t E R w0 (fun _ => false) w0.drew)
    (x2 : ∀ w, (Instr.fieldAt 51 (.pointer (some ⟨x, 0, none⟩)) 0).run Try.prog w = .ok (.pointer (some ⟨x, 0, none⟩)) w)
    (x3 : ∀ l w, rtS x b t E R w0 l w → l 8 = false → (Instr.loadAt 28 (.pointer (some ⟨x, 0, none⟩))).run Try.prog w = .ok (.pointer (some ⟨b, 0, none⟩)) w)
    (x6 : ∀ w, (Instr.fieldAt 51 (.pointer (some ⟨x, 0, none⟩)) 1).run Try.prog w = .ok (.pointer (some ⟨x, 1, none⟩)) w)
    (x7 : ∀ l w, rtS x b t E R w0 l w → l 8 = false → (Instr.loadAt 9 (.pointer (some ⟨x, 1, none⟩))).run Try.prog w = .ok (.string t) w)
    (u0 : a0.tmps.getD 0 undef = .pointer (some ⟨x, 0, none⟩))
    (hcall : ∀ w, w = w0.drew → Calls Try.prog 35 #[.pointer (some ⟨b, 0, none⟩), .string t, .int .i64 1] w fun e W' => ∃ v, e = .returned (.tuple #[v, .int .i64 E]) ∧ R v W')
    (hs : 40 ≤ a0.tmps.size)
    (fin : ∀ l a w, (∀ j, j < 14 → l j = true) → a.tmps.size = a0.tmps.size → a.defers = a0.defers → (∀ s, (∀ i, i < 14 → rtD i ≠ some s) → a.tmps.getD s undef = a0.tmps.getD s undef) → rtS x b t E R w0 l w → (∀ i d, i < 14 → rtD i = some d → rtF x b t E R l i (a.tmps.getD d undef) w) → Q .normal a w) : (Code.region id ops true).wp Try.prog Q a0 w0 := by
  have r35 : ∀ args w, (callFunc 35 args).run Try.prog w = .ok (.enter 35 args) w := enters_of Try.func35 (by kernel_rfl) rfl
  refine wp_region_inv2 (by kernel_rfl) hlow (Inv 14 rtD a0 (fun l _ w => rtS x b t E R w0 l w) (rtF x b t E R)) (Inv.start hS) ?_ ?_
  · intro l i o a w ho hl hcl hdep hI
    have hi : i < 14 := by rw [← hsz]; exact (Array.getElem?_eq_some_iff.1 ho).1
    have ev : ∀ (s : Nat), a.eval (.tmp s) = a.tmps.getD s undef := fun _ => rfl
    have evf : ∀ f, a.eval (.func f) = .func (.func f) #[] #[] := fun _ => rfl
    have evc : ∀ c : Value, a.eval (.const c) = c := fun _ => rfl
    have inj : ∀ d, rtD i = some d → ∀ j d', j < 14 → rtD j = some d' → j ≠ i → d' ≠ d := fun d hd j d' hj hd' hne e => hne (rtD_inj j hj i hi (by rw [hd', hd, e]) (by rw [hd']; simp))
    have kp : ∀ s, (∀ i, i < 14 → rtD i ≠ some s) → a.tmps.getD s undef = a0.tmps.getD s undef := hI.kept
    have hw : rtS x b t E R w0 l w := hI.world
    have oth : ∀ j, j ≠ i → (l j || j == i) = l j := fun j hj => by rw [show (j == i) = false by simp [hj], Bool.or_false]
    have sam : (l i || i == i) = true := by simp
    have go : ∀ {d : Nat} {v : Value}, rtD i = some d → (i ≠ 8) → rtF x b t E R (fun j => l j || j == i) i v w → Inv 14 rtD a0 (fun l _ w => rtS x b t E R w0 l w) (rtF x b t E R) (fun j => l j || j == i) (a.put (some d) v) w := by
      intro d v hD hn hF
      refine hI.put hi hD (Nat.lt_of_lt_of_le (rtD_lt i hi d hD) hs) (inj d hD) ?_ hF (fun j u _ _ _ hf => ?_)
      · show rtS x b t E R w0 _ w
        unfold rtS at hw ⊢
        dsimp only
        rw [oth 8 (by omega)]
        exact hw
      · unfold rtF at hf ⊢
        skip
        exact hf
    rcases (show i = 0 ∨ i = 1 ∨ i = 2 ∨ i = 3 ∨ i = 4 ∨ i = 5 ∨ i = 6 ∨ i = 7 ∨ i = 8 ∨ i = 9 ∨ i = 10 ∨ i = 11 ∨ i = 12 ∨ i = 13 by omega) with rfl | rfl | rfl | rfl | rfl | rfl | rfl | rfl | rfl | rfl | rfl | rfl | rfl | rfl
    · obtain ⟨o', e1, e2, e3, e4, e5⟩ := o0
      obtain rfl := Option.some.inj (ho.symm.trans e1)
      have dp := dep_of' e5 hdep
      have U0 : a.tmps.getD 0 undef = .pointer (some ⟨x, 0, none⟩) := (kp 0 (by decide)).trans u0
      exact wpOp_value (v := .pointer (some ⟨x, 0, none⟩)) (w' := w) ho e4 (by simp [execOp, e3, ev, evc, U0]) (by rw [e2]; exact go rfl (by decide) rfl)
    · obtain ⟨o', e1, e2, e3, e4, e5⟩ := o1
      obtain rfl := Option.some.inj (ho.symm.trans e1)
      have dp := dep_of' e5 hdep
      have V0 : a.tmps.getD 25 undef = .pointer (some ⟨x, 0, none⟩) := hI.val 0 25 (by decide) rfl (dp 0 (by decide))
      exact wpOp_value (v := .pointer (some ⟨x, 0, none⟩)) (w' := w) ho e4 (by simp [execOp, e3, ev, evc, V0]) (by rw [e2]; exact go rfl (by decide) rfl)
    · obtain ⟨o', e1, e2, e3, e4, e5⟩ := o2
      obtain rfl := Option.some.inj (ho.symm.trans e1)
      have dp := dep_of' e5 hdep
      have V1 : a.tmps.getD 26 undef = .pointer (some ⟨x, 0, none⟩) := hI.val 1 26 (by decide) rfl (dp 1 (by decide))
      exact wpOp_value (v := .pointer (some ⟨x, 0, none⟩)) (w' := w) ho e4 (by simp [execOp, e3, ev, evc, V1, x2 w]) (by rw [e2]; exact go rfl (by decide) rfl)
    · obtain ⟨o', e1, e2, e3, e4, e5⟩ := o3
      obtain rfl := Option.some.inj (ho.symm.trans e1)
      have dp := dep_of' e5 hdep
      have V2 : a.tmps.getD 27 undef = .pointer (some ⟨x, 0, none⟩) := hI.val 2 27 (by decide) rfl (dp 2 (by decide))
      have n8 : l 8 = false := by
        cases e : l 8 with
        | false => rfl
        | true =>
          exfalso
          have y0 := hcl.dep' o8 e 3 (by decide)
          rw [hl] at y0
          cases y0
      exact wpOp_value (v := .pointer (some ⟨b, 0, none⟩)) (w' := w) ho e4 (by simp [execOp, e3, ev, evc, V2, x3 l w hw n8]) (by rw [e2]; exact go rfl (by decide) rfl)
    · obtain ⟨o', e1, e2, e3, e4, e5⟩ := o4
      obtain rfl := Option.some.inj (ho.symm.trans e1)
      have dp := dep_of' e5 hdep
      have U0 : a.tmps.getD 0 undef = .pointer (some ⟨x, 0, none⟩) := (kp 0 (by decide)).trans u0
      exact wpOp_value (v := .pointer (some ⟨x, 0, none⟩)) (w' := w) ho e4 (by simp [execOp, e3, ev, evc, U0]) (by rw [e2]; exact go rfl (by decide) rfl)
    · obtain ⟨o', e1, e2, e3, e4, e5⟩ := o5
      obtain rfl := Option.some.inj (ho.symm.trans e1)
      have dp := dep_of' e5 hdep
      have V4 : a.tmps.getD 29 undef = .pointer (some ⟨x, 0, none⟩) := hI.val 4 29 (by decide) rfl (dp 4 (by decide))
      exact wpOp_value (v := .pointer (some ⟨x, 0, none⟩)) (w' := w) ho e4 (by simp [execOp, e3, ev, evc, V4]) (by rw [e2]; exact go rfl (by decide) rfl)
    · obtain ⟨o', e1, e2, e3, e4, e5⟩ := o6
      obtain rfl := Option.some.inj (ho.symm.trans e1)
      have dp := dep_of' e5 hdep
      have V5 : a.tmps.getD 30 undef = .pointer (some ⟨x, 0, none⟩) := hI.val 5 30 (by decide) rfl (dp 5 (by decide))
      exact wpOp_value (v := .pointer (some ⟨x, 1, none⟩)) (w' := w) ho e4 (by simp [execOp, e3, ev, evc, V5, x6 w]) (by rw [e2]; exact go rfl (by decide) rfl)
    · obtain ⟨o', e1, e2, e3, e4, e5⟩ := o7
      obtain rfl := Option.some.inj (ho.symm.trans e1)
      have dp := dep_of' e5 hdep
      have V6 : a.tmps.getD 31 undef = .pointer (some ⟨x, 1, none⟩) := hI.val 6 31 (by decide) rfl (dp 6 (by decide))
      have n8 : l 8 = false := by
        cases e : l 8 with
        | false => rfl
        | true =>
          exfalso
          have y0 := hcl.dep' o8 e 7 (by decide)
          rw [hl] at y0
          cases y0
      exact wpOp_value (v := .string t) (w' := w) ho e4 (by simp [execOp, e3, ev, evc, V6, x7 l w hw n8]) (by rw [e2]; exact go rfl (by decide) rfl)
    · obtain ⟨o', e1, e2, e3, e4, e5⟩ := o8
      obtain rfl := Option.some.inj (ho.symm.trans e1)
      have dp := dep_of' e5 hdep
      have V3 : a.tmps.getD 28 undef = .pointer (some ⟨b, 0, none⟩) := hI.val 3 28 (by decide) rfl (dp 3 (by decide))
      have V7 : a.tmps.getD 32 undef = .string t := hI.val 7 32 (by decide) rfl (dp 7 (by decide))
      refine wpOp_call (f := 35) (args := #[.pointer (some ⟨b, 0, none⟩), .string t, .int .i64 1]) ho e4 (by simp [execOp, e3, resolve, invoke, Deferred.ofValue, r35, ev, evf, evc, V3, V7]) ((hcall w (hw hl)).mono ?_)
      rintro e W' ⟨v, rfl, hF⟩
      refine ⟨_, rfl, ?_⟩
      rw [e2]
      refine hI.put hi rfl (Nat.lt_of_lt_of_le (by decide) hs) (inj 33 rfl) ?_ ⟨_, rfl, hF⟩ (fun j u hj hd hne hf => ?_)
      · show rtS x b t E R w0 _ _
        unfold rtS
        dsimp only
        rw [sam]
        exact (fun h => by cases h)
      · rcases (show j = 0 ∨ j = 1 ∨ j = 2 ∨ j = 3 ∨ j = 4 ∨ j = 5 ∨ j = 6 ∨ j = 7 ∨ j = 8 ∨ j = 9 ∨ j = 10 ∨ j = 11 ∨ j = 12 ∨ j = 13 by omega) with rfl | rfl | rfl | rfl | rfl | rfl | rfl | rfl | rfl | rfl | rfl | rfl | rfl | rfl
        · exact hf
        · exact hf
        · exact hf
        · exact hf
        · exact hf
        · exact hf
        · exact hf
        · exact hf
        · exact absurd rfl hne
        · exfalso
          have y0 := hcl.dep' o9 hd 8 (by decide)
          rw [hl] at y0
          cases y0
        · exfalso
          have y0 := hcl.dep' o10 hd 9 (by decide)
          have y1 := hcl.dep' o9 y0 8 (by decide)
          rw [hl] at y1
          cases y1
        · exfalso
          have y0 := hcl.dep' o11 hd 9 (by decide)
          have y1 := hcl.dep' o9 y0 8 (by decide)
          rw [hl] at y1
          cases y1
        · exfalso
          have y0 := hcl.dep' o12 hd 10 (by decide)
          have y1 := hcl.dep' o10 y0 9 (by decide)
          have y2 := hcl.dep' o9 y1 8 (by decide)
          rw [hl] at y2
          cases y2
        · exfalso
          have y0 := hcl.dep' o13 hd 11 (by decide)
          have y1 := hcl.dep' o11 y0 9 (by decide)
          have y2 := hcl.dep' o9 y1 8 (by decide)
          rw [hl] at y2
          cases y2
    · obtain ⟨o', e1, e2, e3, e4, e5⟩ := o9
      obtain rfl := Option.some.inj (ho.symm.trans e1)
      have dp := dep_of' e5 hdep
      obtain ⟨v8, V8, f8⟩ : ∃ v, a.tmps.getD 33 undef = .tuple #[v, .int .i64 E] ∧ R v w := hI.val 8 33 (by decide) rfl (dp 8 (by decide))
      exact wpOp_value (v := .tuple #[v8, .int .i64 E]) (w' := w) ho e4 (by simp [execOp, e3, ev, evc, V8]) (by rw [e2]; exact go rfl (by decide) ⟨_, rfl, f8⟩)
    · obtain ⟨o', e1, e2, e3, e4, e5⟩ := o10
      obtain rfl := Option.some.inj (ho.symm.trans e1)
      have dp := dep_of' e5 hdep
      obtain ⟨v9, V9, f9⟩ : ∃ v, a.tmps.getD 24 undef = .tuple #[v, .int .i64 E] ∧ R v w := hI.val 9 24 (by decide) rfl (dp 9 (by decide))
      exact wpOp_value (v := v9) (w' := w) ho e4 (by simp [execOp, e3, ev, evc, V9, Instr.extract]) (by rw [e2]; exact go rfl (by decide) ⟨_, rfl, f9⟩)
    · obtain ⟨o', e1, e2, e3, e4, e5⟩ := o11
      obtain rfl := Option.some.inj (ho.symm.trans e1)
      have dp := dep_of' e5 hdep
      obtain ⟨v9, V9, f9⟩ : ∃ v, a.tmps.getD 24 undef = .tuple #[v, .int .i64 E] ∧ R v w := hI.val 9 24 (by decide) rfl (dp 9 (by decide))
      exact wpOp_value (v := .int .i64 E) (w' := w) ho e4 (by simp [execOp, e3, ev, evc, V9, Instr.extract]) (by rw [e2]; exact go rfl (by decide) rfl)
    · obtain ⟨o', e1, e2, e3, e4, e5⟩ := o12
      obtain rfl := Option.some.inj (ho.symm.trans e1)
      have dp := dep_of' e5 hdep
      obtain ⟨v10, V10, f10⟩ : ∃ v, a.tmps.getD 34 undef = v ∧ R v w := hI.val 10 34 (by decide) rfl (dp 10 (by decide))
      exact wpOp_value (v := v10) (w' := w) ho e4 (by simp [execOp, e3, ev, evc, V10]) (by rw [e2]; exact go rfl (by decide) ⟨_, rfl, f10⟩)
    · obtain ⟨o', e1, e2, e3, e4, e5⟩ := o13
      obtain rfl := Option.some.inj (ho.symm.trans e1)
      have dp := dep_of' e5 hdep
      have V11 : a.tmps.getD 35 undef = .int .i64 E := hI.val 11 35 (by decide) rfl (dp 11 (by decide))
      exact wpOp_value (v := .int .i64 E) (w' := w) ho e4 (by simp [execOp, e3, ev, evc, V11]) (by rw [e2]; exact go rfl (by decide) rfl)
  · intro l a w hall hI
    have all : ∀ j, j < 14 → l j = true := fun j hj => hall j (by rw [hsz]; exact hj)
    exact fin l a w all hI.size hI.defers hI.kept hI.world (fun i d hi hD => hI.val i d hi hD (all i hi))
end

/- The regions of the document's Fork. -/
section
open Go.ChangeShapes Go.WideShapes Go.ChangeAt Go.RowKit
set_option linter.unusedVariables false
set_option linter.unusedSimpArgs false

theorem run_build51 (b : Option Addr) (t : ByteArray) (v1 v2 v3 : Int) (ca : Option Addr) (L cc : Nat) (w : World) : (Instr.build 51 #[(0, .pointer b), (1, .string t), (2, .int .i64 v1), (3, .slice ca L cc), (4, .int .i64 v2), (5, .int .i64 v3)]).run Try.prog w = .ok (.agg #[.pointer b, .string t, .int .i64 v1, .slice ca L cc, .int .i64 v2, .int .i64 v3]) w := by go_simp
theorem run_box51 (b : Option Addr) (t : ByteArray) (v1 v2 v3 : Int) (ca : Option Addr) (L cc : Nat) (w : World) : (Instr.box 51 (.agg #[.pointer b, .string t, .int .i64 v1, .slice ca L cc, .int .i64 v2, .int .i64 v3])).run Try.prog w = .ok (.pointer (some ⟨w.heap.size, 0, none⟩)) (w.alloc (.cells #[.pointer b, .string t, .int .i64 v1, .slice ca L cc, .int .i64 v2, .int .i64 v3] 51)) := by go_simp
def rsD (i : Nat) : Option Nat := match i with | 0 => some 13 | 1 => some 14 | 2 => some 15 | 3 => some 16 | 4 => some 17 | 5 => some 18 | 6 => some 19 | 7 => some 20 | 8 => some 21 | 9 => some 22 | 10 => some 23 | 11 => some 24 | _ => none
theorem rsD_inj : ∀ i, i < 12 → ∀ j, j < 12 → rsD i = rsD j → rsD i ≠ none → i = j := by decide
theorem rsD_lt : ∀ i, i < 12 → ∀ d, rsD i = some d → d < 25 := by
  intro i hi d h
  have : ∀ i, i < 12 → (rsD i).all (fun d => decide (d < 25)) = true := by decide
  have := this i hi
  rw [h] at this
  simpa using this
def rsF (x b L c k : Nat) (y : Addr) (Z : Int) (Fin : World → Prop) (l : Nat → Bool) (i : Nat) (q : Value) (w : World) : Prop := match i with
  | 0 => q = .pointer (some ⟨x, 0, none⟩)
  | 1 => q = .pointer (some ⟨x, 0, none⟩)
  | 2 => q = .pointer (some ⟨x, 0, none⟩)
  | 3 => q = .pointer (some ⟨b, 0, none⟩)
  | 4 => q = .pointer (some ⟨x, 0, none⟩)
  | 5 => q = .pointer (some ⟨x, 0, none⟩)
  | 6 => q = .pointer (some ⟨x, 3, none⟩)
  | 7 => q = .slice (some y) L c
  | 8 => q = .int .i64 (k : Nat)
  | 9 => q = .pointer (some (y.add k))
  | 10 => q = .int .i64 Z
  | 11 => True
  | _ => True
def rsS (x b L c k : Nat) (y : Addr) (Z : Int) (Fin : World → Prop) (w0 : World) (l : Nat → Bool) (w : World) : Prop := (l 11 = false → w = w0.drew) ∧ (l 11 = true → Fin w)

set_option maxHeartbeats 8000000 in
theorem rs_region {id : Nat} {ops : Array Oper} {Q : Exit → Act → World → Prop} {a0 : Act} {w0 : World} (x b L c k : Nat) (y : Addr) (Z : Int) (Fin : World → Prop) (hlow : lowB ops = true) (hsz : ops.size = 12)
    (o0 : OpIn ops 0 (some 13) (.move (.tmp 0)) none []) (o1 : OpIn ops 1 (some 14) (.nilCheck (.tmp 13)) none [0]) (o2 : OpIn ops 2 (some 15) (.fieldAddr 51 (.tmp 14) 0) none [1]) (o3 : OpIn ops 3 (some 16) (.load 28 (.tmp 15)) none [2]) (o4 : OpIn ops 4 (some 17) (.move (.tmp 0)) none []) (o5 : OpIn ops 5 (some 18) (.nilCheck (.tmp 17)) none [4]) (o6 : OpIn ops 6 (some 19) (.fieldAddr 51 (.tmp 18) 3) none [5]) (o7 : OpIn ops 7 (some 20) (.load 49 (.tmp 19)) none [6]) (o8 : OpIn ops 8 (some 21) (.move (.tmp 3)) none []) (o9 : OpIn ops 9 (some 22) (.indexAddr 49 (.tmp 20) (.tmp 21)) none [7, 8]) (o10 : OpIn ops 10 (some 23) (.load 3 (.tmp 22)) none [9]) (o11 : OpIn ops 11 (some 24) (.call { callee := .value (.func 42), args := #[.tmp 16, .tmp 23], argTypes := #[28, 3] }) none [3, 10])
    (hS : rsS x b L c k y Z Fin w0 (fun _ => false) w0.drew)
    (x2 : ∀ w, (Instr.fieldAt 51 (.pointer (some ⟨x, 0, none⟩)) 0).run Try.prog w = .ok (.pointer (some ⟨x, 0, none⟩)) w)
    (x3 : ∀ l w, rsS x b L c k y Z Fin w0 l w → l 11 = false → (Instr.loadAt 28 (.pointer (some ⟨x, 0, none⟩))).run Try.prog w = .ok (.pointer (some ⟨b, 0, none⟩)) w)
    (x6 : ∀ w, (Instr.fieldAt 51 (.pointer (some ⟨x, 0, none⟩)) 3).run Try.prog w = .ok (.pointer (some ⟨x, 3, none⟩)) w)
    (x7 : ∀ l w, rsS x b L c k y Z Fin w0 l w → l 11 = false → (Instr.loadAt 49 (.pointer (some ⟨x, 3, none⟩))).run Try.prog w = .ok (.slice (some y) L c) w)
    (x9 : ∀ w, (Instr.indexAt 49 (.slice (some y) L c) (.int .i64 (k : Nat))).run Try.prog w = .ok (.pointer (some (y.add k))) w)
    (x10 : ∀ l w, rsS x b L c k y Z Fin w0 l w → l 11 = false → (Instr.loadAt 3 (.pointer (some (y.add k)))).run Try.prog w = .ok (.int .i64 Z) w)
    (u0 : a0.tmps.getD 0 undef = .pointer (some ⟨x, 0, none⟩))
    (u3 : a0.tmps.getD 3 undef = .int .i64 (k : Nat))
    (hcall : ∀ w, w = w0.drew → Calls Try.prog 42 #[.pointer (some ⟨b, 0, none⟩), .int .i64 Z] w fun e W' => ∃ v, e = .returned v ∧ Fin W')
    (hs : 25 ≤ a0.tmps.size)
    (fin : ∀ l a w, (∀ j, j < 12 → l j = true) → a.tmps.size = a0.tmps.size → a.defers = a0.defers → (∀ s, (∀ i, i < 12 → rsD i ≠ some s) → a.tmps.getD s undef = a0.tmps.getD s undef) → rsS x b L c k y Z Fin w0 l w → (∀ i d, i < 12 → rsD i = some d → rsF x b L c k y Z Fin l i (a.tmps.getD d undef) w) → Q .normal a w) : (Code.region id ops true).wp Try.prog Q a0 w0 := by
  have r42 : ∀ args w, (callFunc 42 args).run Try.prog w = .ok (.enter 42 args) w := enters_of Try.func42 (by kernel_rfl) rfl
  refine wp_region_inv2 (by kernel_rfl) hlow (Inv 12 rsD a0 (fun l _ w => rsS x b L c k y Z Fin w0 l w) (rsF x b L c k y Z Fin)) (Inv.start hS) ?_ ?_
  · intro l i o a w ho hl hcl hdep hI
    have hi : i < 12 := by rw [← hsz]; exact (Array.getElem?_eq_some_iff.1 ho).1
    have ev : ∀ (s : Nat), a.eval (.tmp s) = a.tmps.getD s undef := fun _ => rfl
    have evf : ∀ f, a.eval (.func f) = .func (.func f) #[] #[] := fun _ => rfl
    have evc : ∀ c : Value, a.eval (.const c) = c := fun _ => rfl
    have inj : ∀ d, rsD i = some d → ∀ j d', j < 12 → rsD j = some d' → j ≠ i → d' ≠ d := fun d hd j d' hj hd' hne e => hne (rsD_inj j hj i hi (by rw [hd', hd, e]) (by rw [hd']; simp))
    have kp : ∀ s, (∀ i, i < 12 → rsD i ≠ some s) → a.tmps.getD s undef = a0.tmps.getD s undef := hI.kept
    have hw : rsS x b L c k y Z Fin w0 l w := hI.world
    have oth : ∀ j, j ≠ i → (l j || j == i) = l j := fun j hj => by rw [show (j == i) = false by simp [hj], Bool.or_false]
    have sam : (l i || i == i) = true := by simp
    have go : ∀ {d : Nat} {v : Value}, rsD i = some d → (i ≠ 11) → rsF x b L c k y Z Fin (fun j => l j || j == i) i v w → Inv 12 rsD a0 (fun l _ w => rsS x b L c k y Z Fin w0 l w) (rsF x b L c k y Z Fin) (fun j => l j || j == i) (a.put (some d) v) w := by
      intro d v hD hn hF
      refine hI.put hi hD (Nat.lt_of_lt_of_le (rsD_lt i hi d hD) hs) (inj d hD) ?_ hF (fun j u _ _ _ hf => ?_)
      · show rsS x b L c k y Z Fin w0 _ w
        unfold rsS at hw ⊢
        dsimp only
        rw [oth 11 (by omega)]
        exact hw
      · unfold rsF at hf ⊢
        skip
        exact hf
    rcases (show i = 0 ∨ i = 1 ∨ i = 2 ∨ i = 3 ∨ i = 4 ∨ i = 5 ∨ i = 6 ∨ i = 7 ∨ i = 8 ∨ i = 9 ∨ i = 10 ∨ i = 11 by omega) with rfl | rfl | rfl | rfl | rfl | rfl | rfl | rfl | rfl | rfl | rfl | rfl
    · obtain ⟨o', e1, e2, e3, e4, e5⟩ := o0
      obtain rfl := Option.some.inj (ho.symm.trans e1)
      have dp := dep_of' e5 hdep
      have U0 : a.tmps.getD 0 undef = .pointer (some ⟨x, 0, none⟩) := (kp 0 (by decide)).trans u0
      exact wpOp_value (v := .pointer (some ⟨x, 0, none⟩)) (w' := w) ho e4 (by simp [execOp, e3, ev, evc, U0]) (by rw [e2]; exact go rfl (by decide) rfl)
    · obtain ⟨o', e1, e2, e3, e4, e5⟩ := o1
      obtain rfl := Option.some.inj (ho.symm.trans e1)
      have dp := dep_of' e5 hdep
      have V0 : a.tmps.getD 13 undef = .pointer (some ⟨x, 0, none⟩) := hI.val 0 13 (by decide) rfl (dp 0 (by decide))
      exact wpOp_value (v := .pointer (some ⟨x, 0, none⟩)) (w' := w) ho e4 (by simp [execOp, e3, ev, evc, V0]) (by rw [e2]; exact go rfl (by decide) rfl)
    · obtain ⟨o', e1, e2, e3, e4, e5⟩ := o2
      obtain rfl := Option.some.inj (ho.symm.trans e1)
      have dp := dep_of' e5 hdep
      have V1 : a.tmps.getD 14 undef = .pointer (some ⟨x, 0, none⟩) := hI.val 1 14 (by decide) rfl (dp 1 (by decide))
      exact wpOp_value (v := .pointer (some ⟨x, 0, none⟩)) (w' := w) ho e4 (by simp [execOp, e3, ev, evc, V1, x2 w]) (by rw [e2]; exact go rfl (by decide) rfl)
    · obtain ⟨o', e1, e2, e3, e4, e5⟩ := o3
      obtain rfl := Option.some.inj (ho.symm.trans e1)
      have dp := dep_of' e5 hdep
      have V2 : a.tmps.getD 15 undef = .pointer (some ⟨x, 0, none⟩) := hI.val 2 15 (by decide) rfl (dp 2 (by decide))
      have n11 : l 11 = false := by
        cases e : l 11 with
        | false => rfl
        | true =>
          exfalso
          have y0 := hcl.dep' o11 e 3 (by decide)
          rw [hl] at y0
          cases y0
      exact wpOp_value (v := .pointer (some ⟨b, 0, none⟩)) (w' := w) ho e4 (by simp [execOp, e3, ev, evc, V2, x3 l w hw n11]) (by rw [e2]; exact go rfl (by decide) rfl)
    · obtain ⟨o', e1, e2, e3, e4, e5⟩ := o4
      obtain rfl := Option.some.inj (ho.symm.trans e1)
      have dp := dep_of' e5 hdep
      have U0 : a.tmps.getD 0 undef = .pointer (some ⟨x, 0, none⟩) := (kp 0 (by decide)).trans u0
      exact wpOp_value (v := .pointer (some ⟨x, 0, none⟩)) (w' := w) ho e4 (by simp [execOp, e3, ev, evc, U0]) (by rw [e2]; exact go rfl (by decide) rfl)
    · obtain ⟨o', e1, e2, e3, e4, e5⟩ := o5
      obtain rfl := Option.some.inj (ho.symm.trans e1)
      have dp := dep_of' e5 hdep
      have V4 : a.tmps.getD 17 undef = .pointer (some ⟨x, 0, none⟩) := hI.val 4 17 (by decide) rfl (dp 4 (by decide))
      exact wpOp_value (v := .pointer (some ⟨x, 0, none⟩)) (w' := w) ho e4 (by simp [execOp, e3, ev, evc, V4]) (by rw [e2]; exact go rfl (by decide) rfl)
    · obtain ⟨o', e1, e2, e3, e4, e5⟩ := o6
      obtain rfl := Option.some.inj (ho.symm.trans e1)
      have dp := dep_of' e5 hdep
      have V5 : a.tmps.getD 18 undef = .pointer (some ⟨x, 0, none⟩) := hI.val 5 18 (by decide) rfl (dp 5 (by decide))
      exact wpOp_value (v := .pointer (some ⟨x, 3, none⟩)) (w' := w) ho e4 (by simp [execOp, e3, ev, evc, V5, x6 w]) (by rw [e2]; exact go rfl (by decide) rfl)
    · obtain ⟨o', e1, e2, e3, e4, e5⟩ := o7
      obtain rfl := Option.some.inj (ho.symm.trans e1)
      have dp := dep_of' e5 hdep
      have V6 : a.tmps.getD 19 undef = .pointer (some ⟨x, 3, none⟩) := hI.val 6 19 (by decide) rfl (dp 6 (by decide))
      have n11 : l 11 = false := by
        cases e : l 11 with
        | false => rfl
        | true =>
          exfalso
          have y0 := hcl.dep' o11 e 10 (by decide)
          have y1 := hcl.dep' o10 y0 9 (by decide)
          have y2 := hcl.dep' o9 y1 7 (by decide)
          rw [hl] at y2
          cases y2
      exact wpOp_value (v := .slice (some y) L c) (w' := w) ho e4 (by simp [execOp, e3, ev, evc, V6, x7 l w hw n11]) (by rw [e2]; exact go rfl (by decide) rfl)
    · obtain ⟨o', e1, e2, e3, e4, e5⟩ := o8
      obtain rfl := Option.some.inj (ho.symm.trans e1)
      have dp := dep_of' e5 hdep
      have U3 : a.tmps.getD 3 undef = .int .i64 (k : Nat) := (kp 3 (by decide)).trans u3
      exact wpOp_value (v := .int .i64 (k : Nat)) (w' := w) ho e4 (by simp [execOp, e3, ev, evc, U3]) (by rw [e2]; exact go rfl (by decide) rfl)
    · obtain ⟨o', e1, e2, e3, e4, e5⟩ := o9
      obtain rfl := Option.some.inj (ho.symm.trans e1)
      have dp := dep_of' e5 hdep
      have V7 : a.tmps.getD 20 undef = .slice (some y) L c := hI.val 7 20 (by decide) rfl (dp 7 (by decide))
      have V8 : a.tmps.getD 21 undef = .int .i64 (k : Nat) := hI.val 8 21 (by decide) rfl (dp 8 (by decide))
      exact wpOp_value (v := .pointer (some (y.add k))) (w' := w) ho e4 (by simp [execOp, e3, ev, evc, V7, V8, x9 w]) (by rw [e2]; exact go rfl (by decide) rfl)
    · obtain ⟨o', e1, e2, e3, e4, e5⟩ := o10
      obtain rfl := Option.some.inj (ho.symm.trans e1)
      have dp := dep_of' e5 hdep
      have V9 : a.tmps.getD 22 undef = .pointer (some (y.add k)) := hI.val 9 22 (by decide) rfl (dp 9 (by decide))
      have n11 : l 11 = false := by
        cases e : l 11 with
        | false => rfl
        | true =>
          exfalso
          have y0 := hcl.dep' o11 e 10 (by decide)
          rw [hl] at y0
          cases y0
      exact wpOp_value (v := .int .i64 Z) (w' := w) ho e4 (by simp [execOp, e3, ev, evc, V9, x10 l w hw n11]) (by rw [e2]; exact go rfl (by decide) rfl)
    · obtain ⟨o', e1, e2, e3, e4, e5⟩ := o11
      obtain rfl := Option.some.inj (ho.symm.trans e1)
      have dp := dep_of' e5 hdep
      have V3 : a.tmps.getD 16 undef = .pointer (some ⟨b, 0, none⟩) := hI.val 3 16 (by decide) rfl (dp 3 (by decide))
      have V10 : a.tmps.getD 23 undef = .int .i64 Z := hI.val 10 23 (by decide) rfl (dp 10 (by decide))
      refine wpOp_call (f := 42) (args := #[.pointer (some ⟨b, 0, none⟩), .int .i64 Z]) ho e4 (by simp [execOp, e3, resolve, invoke, Deferred.ofValue, r42, ev, evf, evc, V3, V10]) ((hcall w (hw.1 hl)).mono ?_)
      rintro e W' ⟨v, rfl, hF⟩
      refine ⟨_, rfl, ?_⟩
      rw [e2]
      refine hI.put hi rfl (Nat.lt_of_lt_of_le (by decide) hs) (inj 24 rfl) ?_ trivial (fun j u _ _ hne hf => by unfold rsF at hf ⊢; exact hf)
      show rsS x b L c k y Z Fin w0 _ _
      unfold rsS
      dsimp only
      rw [sam]
      exact ⟨(fun h => by cases h), fun _ => hF⟩
  · intro l a w hall hI
    have all : ∀ j, j < 12 → l j = true := fun j hj => hall j (by rw [hsz]; exact hj)
    exact fin l a w all hI.size hI.defers hI.kept hI.world (fun i d hi hD => hI.val i d hi hD (all i hi))

def rfD (i : Nat) : Option Nat := match i with | 0 => some 25 | 1 => some 26 | 2 => some 27 | 3 => some 28 | 4 => some 29 | 5 => some 30 | 6 => some 31 | 7 => some 32 | 8 => some 33 | 9 => some 34 | 10 => some 35 | 11 => some 36 | 12 => some 37 | 13 => some 38 | 14 => some 39 | 15 => some 40 | 16 => some 41 | 17 => some 42 | 18 => some 43 | 19 => some 44 | 20 => some 45 | 21 => some 46 | 22 => some 47 | 23 => some 48 | 24 => some 49 | 25 => some 50 | 26 => some 51 | 27 => some 52 | 28 => some 2 | _ => none
theorem rfD_inj : ∀ i, i < 29 → ∀ j, j < 29 → rfD i = rfD j → rfD i ≠ none → i = j := by decide
theorem rfD_lt : ∀ i, i < 29 → ∀ d, rfD i = some d → d < 53 := by
  intro i hi d h
  have : ∀ i, i < 29 → (rfD i).all (fun d => decide (d < 53)) = true := by decide
  have := this i hi
  rw [h] at this
  simpa using this
def rfF (x b wd L c st n w0s : Nat) (t : ByteArray) (sa : Option Addr) (P : List Int) (l : Nat → Bool) (i : Nat) (q : Value) (w : World) : Prop := match i with
  | 0 => q = .pointer (some ⟨x, 0, none⟩)
  | 1 => q = .pointer (some ⟨x, 0, none⟩)
  | 2 => q = .pointer (some ⟨x, 0, none⟩)
  | 3 => q = .pointer (some ⟨b, 0, none⟩)
  | 4 => q = .pointer (some ⟨x, 0, none⟩)
  | 5 => q = .pointer (some ⟨x, 0, none⟩)
  | 6 => q = .pointer (some ⟨x, 1, none⟩)
  | 7 => q = .string t
  | 8 => q = .pointer (some ⟨x, 0, none⟩)
  | 9 => q = .pointer (some ⟨x, 0, none⟩)
  | 10 => q = .pointer (some ⟨x, 2, none⟩)
  | 11 => q = .int .i64 (wd : Nat)
  | 12 => ∃ g0, q = .slice (some ⟨g0, 0, none⟩) 0 0 ∧ w0s ≤ g0 ∧ w.heap[g0]? = some (.cells #[] 3 (0, 0))
  | 13 => q = .pointer (some ⟨x, 0, none⟩)
  | 14 => q = .pointer (some ⟨x, 0, none⟩)
  | 15 => q = .pointer (some ⟨x, 3, none⟩)
  | 16 => q = .slice sa L c
  | 17 => ∃ ca cc, q = .slice ca L cc ∧ RowI w0s w ca L cc P
  | 18 => q = .pointer (some ⟨x, 0, none⟩)
  | 19 => q = .pointer (some ⟨x, 0, none⟩)
  | 20 => q = .pointer (some ⟨x, 4, none⟩)
  | 21 => q = .int .i64 (st : Nat)
  | 22 => q = .pointer (some ⟨x, 0, none⟩)
  | 23 => q = .pointer (some ⟨x, 0, none⟩)
  | 24 => q = .pointer (some ⟨x, 5, none⟩)
  | 25 => q = .int .i64 (n : Nat)
  | 26 => ∃ ca cc, q = .agg #[.pointer (some ⟨b, 0, none⟩), .string t, .int .i64 (wd : Nat), .slice ca L cc, .int .i64 (st : Nat), .int .i64 (n : Nat)] ∧ RowI w0s w ca L cc P
  | 27 => ∃ g2 ca cc, q = .pointer (some ⟨g2, 0, none⟩) ∧ w0s ≤ g2 ∧ w.heap[g2]? = some (.cells #[.pointer (some ⟨b, 0, none⟩), .string t, .int .i64 (wd : Nat), .slice ca L cc, .int .i64 (st : Nat), .int .i64 (n : Nat)] 51 (0, 0)) ∧ RowI w0s w ca L cc P
  | 28 => ∃ g2 ca cc, q = .pointer (some ⟨g2, 0, none⟩) ∧ w0s ≤ g2 ∧ w.heap[g2]? = some (.cells #[.pointer (some ⟨b, 0, none⟩), .string t, .int .i64 (wd : Nat), .slice ca L cc, .int .i64 (st : Nat), .int .i64 (n : Nat)] 51 (0, 0)) ∧ RowI w0s w ca L cc P
  | _ => True
def rfS (x b wd L c st n w0s : Nat) (t : ByteArray) (sa : Option Addr) (P : List Int) (w0 : World) (l : Nat → Bool) (w : World) : Prop := Below w0.heap.size w0 w
theorem rfF_below {x b wd L c st n w0s : Nat} {t : ByteArray} {sa : Option Addr} {P : List Int} {l l' : Nat → Bool} {i : Nat} {q : Value} {w w' : World} (h : rfF x b wd L c st n w0s t sa P l i q w) (hb : Below w.heap.size w w') : rfF x b wd L c st n w0s t sa P l' i q w' := by
  unfold rfF at h ⊢
  split
  · exact h
  · exact h
  · exact h
  · exact h
  · exact h
  · exact h
  · exact h
  · exact h
  · exact h
  · exact h
  · exact h
  · exact h
  · obtain ⟨g0, h1, h2, h3⟩ := h; exact ⟨g0, h1, h2, (hb.block _ (Array.getElem?_eq_some_iff.1 h3).1).trans h3⟩
  · exact h
  · exact h
  · exact h
  · exact h
  · obtain ⟨ca, cc, h1, h2⟩ := h; exact ⟨ca, cc, h1, h2.below hb⟩
  · exact h
  · exact h
  · exact h
  · exact h
  · exact h
  · exact h
  · exact h
  · exact h
  · obtain ⟨ca, cc, h1, h2⟩ := h; exact ⟨ca, cc, h1, h2.below hb⟩
  · obtain ⟨g2, ca, cc, h1, h2, h3, h4⟩ := h; exact ⟨g2, ca, cc, h1, h2, (hb.block _ (Array.getElem?_eq_some_iff.1 h3).1).trans h3, h4.below hb⟩
  · obtain ⟨g2, ca, cc, h1, h2, h3, h4⟩ := h; exact ⟨g2, ca, cc, h1, h2, (hb.block _ (Array.getElem?_eq_some_iff.1 h3).1).trans h3, h4.below hb⟩
  · trivial

set_option maxHeartbeats 8000000 in
theorem rf_region {id : Nat} {ops : Array Oper} {Q : Exit → Act → World → Prop} {a0 : Act} {w0 : World} (x b wd L c st n w0s : Nat) (t : ByteArray) (sa : Option Addr) (P : List Int) (hlow : lowB ops = true) (hsz : ops.size = 29)
    (o0 : OpIn ops 0 (some 25) (.move (.tmp 0)) none []) (o1 : OpIn ops 1 (some 26) (.nilCheck (.tmp 25)) none [0]) (o2 : OpIn ops 2 (some 27) (.fieldAddr 51 (.tmp 26) 0) none [1]) (o3 : OpIn ops 3 (some 28) (.load 28 (.tmp 27)) none [2]) (o4 : OpIn ops 4 (some 29) (.move (.tmp 0)) none []) (o5 : OpIn ops 5 (some 30) (.nilCheck (.tmp 29)) none [4]) (o6 : OpIn ops 6 (some 31) (.fieldAddr 51 (.tmp 30) 1) none [5]) (o7 : OpIn ops 7 (some 32) (.load 9 (.tmp 31)) none [6]) (o8 : OpIn ops 8 (some 33) (.move (.tmp 0)) none []) (o9 : OpIn ops 9 (some 34) (.nilCheck (.tmp 33)) none [8]) (o10 : OpIn ops 10 (some 35) (.fieldAddr 51 (.tmp 34) 2) none [9]) (o11 : OpIn ops 11 (some 36) (.load 3 (.tmp 35)) none [10]) (o12 : OpIn ops 12 (some 37) (.buildSlice 49 0 #[]) none []) (o13 : OpIn ops 13 (some 38) (.move (.tmp 0)) none []) (o14 : OpIn ops 14 (some 39) (.nilCheck (.tmp 38)) none [13]) (o15 : OpIn ops 15 (some 40) (.fieldAddr 51 (.tmp 39) 3) none [14]) (o16 : OpIn ops 16 (some 41) (.load 49 (.tmp 40)) none [15]) (o17 : OpIn ops 17 (some 42) (.call { callee := .builtin .append, args := #[.tmp 37, .tmp 41], argTypes := #[49, 49] }) none [12, 16]) (o18 : OpIn ops 18 (some 43) (.move (.tmp 0)) none []) (o19 : OpIn ops 19 (some 44) (.nilCheck (.tmp 43)) none [18]) (o20 : OpIn ops 20 (some 45) (.fieldAddr 51 (.tmp 44) 4) none [19]) (o21 : OpIn ops 21 (some 46) (.load 3 (.tmp 45)) none [20]) (o22 : OpIn ops 22 (some 47) (.move (.tmp 0)) none []) (o23 : OpIn ops 23 (some 48) (.nilCheck (.tmp 47)) none [22]) (o24 : OpIn ops 24 (some 49) (.fieldAddr 51 (.tmp 48) 5) none [23]) (o25 : OpIn ops 25 (some 50) (.load 3 (.tmp 49)) none [24]) (o26 : OpIn ops 26 (some 51) (.build 51 #[(0, .tmp 28), (1, .tmp 32), (2, .tmp 36), (3, .tmp 42), (4, .tmp 46), (5, .tmp 50)]) none [3, 7, 11, 17, 21, 25]) (o27 : OpIn ops 27 (some 52) (.box 51 (.tmp 51)) none [26]) (o28 : OpIn ops 28 (some 2) (.assign (.tmp 52)) none [27])
    (hS : rfS x b wd L c st n w0s t sa P w0 (fun _ => false) w0.drew)
    (x2 : ∀ w, (Instr.fieldAt 51 (.pointer (some ⟨x, 0, none⟩)) 0).run Try.prog w = .ok (.pointer (some ⟨x, 0, none⟩)) w)
    (x3 : ∀ l w, rfS x b wd L c st n w0s t sa P w0 l w → (Instr.loadAt 28 (.pointer (some ⟨x, 0, none⟩))).run Try.prog w = .ok (.pointer (some ⟨b, 0, none⟩)) w)
    (x6 : ∀ w, (Instr.fieldAt 51 (.pointer (some ⟨x, 0, none⟩)) 1).run Try.prog w = .ok (.pointer (some ⟨x, 1, none⟩)) w)
    (x7 : ∀ l w, rfS x b wd L c st n w0s t sa P w0 l w → (Instr.loadAt 9 (.pointer (some ⟨x, 1, none⟩))).run Try.prog w = .ok (.string t) w)
    (x10 : ∀ w, (Instr.fieldAt 51 (.pointer (some ⟨x, 0, none⟩)) 2).run Try.prog w = .ok (.pointer (some ⟨x, 2, none⟩)) w)
    (x11 : ∀ l w, rfS x b wd L c st n w0s t sa P w0 l w → (Instr.loadAt 3 (.pointer (some ⟨x, 2, none⟩))).run Try.prog w = .ok (.int .i64 (wd : Nat)) w)
    (x15 : ∀ w, (Instr.fieldAt 51 (.pointer (some ⟨x, 0, none⟩)) 3).run Try.prog w = .ok (.pointer (some ⟨x, 3, none⟩)) w)
    (x16 : ∀ l w, rfS x b wd L c st n w0s t sa P w0 l w → (Instr.loadAt 49 (.pointer (some ⟨x, 3, none⟩))).run Try.prog w = .ok (.slice sa L c) w)
    (x20 : ∀ w, (Instr.fieldAt 51 (.pointer (some ⟨x, 0, none⟩)) 4).run Try.prog w = .ok (.pointer (some ⟨x, 4, none⟩)) w)
    (x21 : ∀ l w, rfS x b wd L c st n w0s t sa P w0 l w → (Instr.loadAt 3 (.pointer (some ⟨x, 4, none⟩))).run Try.prog w = .ok (.int .i64 (st : Nat)) w)
    (x24 : ∀ w, (Instr.fieldAt 51 (.pointer (some ⟨x, 0, none⟩)) 5).run Try.prog w = .ok (.pointer (some ⟨x, 5, none⟩)) w)
    (x25 : ∀ l w, rfS x b wd L c st n w0s t sa P w0 l w → (Instr.loadAt 3 (.pointer (some ⟨x, 5, none⟩))).run Try.prog w = .ok (.int .i64 (n : Nat)) w)
    (u0 : a0.tmps.getD 0 undef = .pointer (some ⟨x, 0, none⟩))
    (hw0s : w0s = w0.heap.size) (hn : L ≤ 1000) (hty17 : ∀ o, ops[17]? = some o → o.type = 49) (hrd : ∀ w, Below w0.heap.size w0 w → Reads .i64 w sa L P)
    (hs : 53 ≤ a0.tmps.size)
    (fin : ∀ l a w, (∀ j, j < 29 → l j = true) → a.tmps.size = a0.tmps.size → a.defers = a0.defers → (∀ s, (∀ i, i < 29 → rfD i ≠ some s) → a.tmps.getD s undef = a0.tmps.getD s undef) → rfS x b wd L c st n w0s t sa P w0 l w → (∀ i d, i < 29 → rfD i = some d → rfF x b wd L c st n w0s t sa P l i (a.tmps.getD d undef) w) → Q .normal a w) : (Code.region id ops true).wp Try.prog Q a0 w0 := by
  refine wp_region_inv2 (by kernel_rfl) hlow (Inv 29 rfD a0 (fun l _ w => rfS x b wd L c st n w0s t sa P w0 l w) (rfF x b wd L c st n w0s t sa P)) (Inv.start hS) ?_ ?_
  · intro l i o a w ho hl hcl hdep hI
    have hi : i < 29 := by rw [← hsz]; exact (Array.getElem?_eq_some_iff.1 ho).1
    have ev : ∀ (s : Nat), a.eval (.tmp s) = a.tmps.getD s undef := fun _ => rfl
    have evf : ∀ f, a.eval (.func f) = .func (.func f) #[] #[] := fun _ => rfl
    have evc : ∀ c : Value, a.eval (.const c) = c := fun _ => rfl
    have inj : ∀ d, rfD i = some d → ∀ j d', j < 29 → rfD j = some d' → j ≠ i → d' ≠ d := fun d hd j d' hj hd' hne e => hne (rfD_inj j hj i hi (by rw [hd', hd, e]) (by rw [hd']; simp))
    have kp : ∀ s, (∀ i, i < 29 → rfD i ≠ some s) → a.tmps.getD s undef = a0.tmps.getD s undef := hI.kept
    have hw : rfS x b wd L c st n w0s t sa P w0 l w := hI.world
    have oth : ∀ j, j ≠ i → (l j || j == i) = l j := fun j hj => by rw [show (j == i) = false by simp [hj], Bool.or_false]
    have sam : (l i || i == i) = true := by simp
    have go : ∀ {d : Nat} {v : Value}, rfD i = some d → (i ≠ 99) → rfF x b wd L c st n w0s t sa P (fun j => l j || j == i) i v w → Inv 29 rfD a0 (fun l _ w => rfS x b wd L c st n w0s t sa P w0 l w) (rfF x b wd L c st n w0s t sa P) (fun j => l j || j == i) (a.put (some d) v) w := by
      intro d v hD hn hF
      refine hI.put hi hD (Nat.lt_of_lt_of_le (rfD_lt i hi d hD) hs) (inj d hD) ?_ hF (fun j u _ _ _ hf => ?_)
      · show rfS x b wd L c st n w0s t sa P w0 _ w
        unfold rfS at hw ⊢
        skip
        exact hw
      · unfold rfF at hf ⊢
        skip
        exact hf
    rcases (show i = 0 ∨ i = 1 ∨ i = 2 ∨ i = 3 ∨ i = 4 ∨ i = 5 ∨ i = 6 ∨ i = 7 ∨ i = 8 ∨ i = 9 ∨ i = 10 ∨ i = 11 ∨ i = 12 ∨ i = 13 ∨ i = 14 ∨ i = 15 ∨ i = 16 ∨ i = 17 ∨ i = 18 ∨ i = 19 ∨ i = 20 ∨ i = 21 ∨ i = 22 ∨ i = 23 ∨ i = 24 ∨ i = 25 ∨ i = 26 ∨ i = 27 ∨ i = 28 by omega) with rfl | rfl | rfl | rfl | rfl | rfl | rfl | rfl | rfl | rfl | rfl | rfl | rfl | rfl | rfl | rfl | rfl | rfl | rfl | rfl | rfl | rfl | rfl | rfl | rfl | rfl | rfl | rfl | rfl
    · obtain ⟨o', e1, e2, e3, e4, e5⟩ := o0
      obtain rfl := Option.some.inj (ho.symm.trans e1)
      have dp := dep_of' e5 hdep
      have U0 : a.tmps.getD 0 undef = .pointer (some ⟨x, 0, none⟩) := (kp 0 (by decide)).trans u0
      exact wpOp_value (v := .pointer (some ⟨x, 0, none⟩)) (w' := w) ho e4 (by simp [execOp, e3, ev, evc, U0]) (by rw [e2]; exact go rfl (by decide) rfl)
    · obtain ⟨o', e1, e2, e3, e4, e5⟩ := o1
      obtain rfl := Option.some.inj (ho.symm.trans e1)
      have dp := dep_of' e5 hdep
      have V0 : a.tmps.getD 25 undef = .pointer (some ⟨x, 0, none⟩) := hI.val 0 25 (by decide) rfl (dp 0 (by decide))
      exact wpOp_value (v := .pointer (some ⟨x, 0, none⟩)) (w' := w) ho e4 (by simp [execOp, e3, ev, evc, V0]) (by rw [e2]; exact go rfl (by decide) rfl)
    · obtain ⟨o', e1, e2, e3, e4, e5⟩ := o2
      obtain rfl := Option.some.inj (ho.symm.trans e1)
      have dp := dep_of' e5 hdep
      have V1 : a.tmps.getD 26 undef = .pointer (some ⟨x, 0, none⟩) := hI.val 1 26 (by decide) rfl (dp 1 (by decide))
      exact wpOp_value (v := .pointer (some ⟨x, 0, none⟩)) (w' := w) ho e4 (by simp [execOp, e3, ev, evc, V1, x2 w]) (by rw [e2]; exact go rfl (by decide) rfl)
    · obtain ⟨o', e1, e2, e3, e4, e5⟩ := o3
      obtain rfl := Option.some.inj (ho.symm.trans e1)
      have dp := dep_of' e5 hdep
      have V2 : a.tmps.getD 27 undef = .pointer (some ⟨x, 0, none⟩) := hI.val 2 27 (by decide) rfl (dp 2 (by decide))
      exact wpOp_value (v := .pointer (some ⟨b, 0, none⟩)) (w' := w) ho e4 (by simp [execOp, e3, ev, evc, V2, x3 l w hw]) (by rw [e2]; exact go rfl (by decide) rfl)
    · obtain ⟨o', e1, e2, e3, e4, e5⟩ := o4
      obtain rfl := Option.some.inj (ho.symm.trans e1)
      have dp := dep_of' e5 hdep
      have U0 : a.tmps.getD 0 undef = .pointer (some ⟨x, 0, none⟩) := (kp 0 (by decide)).trans u0
      exact wpOp_value (v := .pointer (some ⟨x, 0, none⟩)) (w' := w) ho e4 (by simp [execOp, e3, ev, evc, U0]) (by rw [e2]; exact go rfl (by decide) rfl)
    · obtain ⟨o', e1, e2, e3, e4, e5⟩ := o5
      obtain rfl := Option.some.inj (ho.symm.trans e1)
      have dp := dep_of' e5 hdep
      have V4 : a.tmps.getD 29 undef = .pointer (some ⟨x, 0, none⟩) := hI.val 4 29 (by decide) rfl (dp 4 (by decide))
      exact wpOp_value (v := .pointer (some ⟨x, 0, none⟩)) (w' := w) ho e4 (by simp [execOp, e3, ev, evc, V4]) (by rw [e2]; exact go rfl (by decide) rfl)
    · obtain ⟨o', e1, e2, e3, e4, e5⟩ := o6
      obtain rfl := Option.some.inj (ho.symm.trans e1)
      have dp := dep_of' e5 hdep
      have V5 : a.tmps.getD 30 undef = .pointer (some ⟨x, 0, none⟩) := hI.val 5 30 (by decide) rfl (dp 5 (by decide))
      exact wpOp_value (v := .pointer (some ⟨x, 1, none⟩)) (w' := w) ho e4 (by simp [execOp, e3, ev, evc, V5, x6 w]) (by rw [e2]; exact go rfl (by decide) rfl)
    · obtain ⟨o', e1, e2, e3, e4, e5⟩ := o7
      obtain rfl := Option.some.inj (ho.symm.trans e1)
      have dp := dep_of' e5 hdep
      have V6 : a.tmps.getD 31 undef = .pointer (some ⟨x, 1, none⟩) := hI.val 6 31 (by decide) rfl (dp 6 (by decide))
      exact wpOp_value (v := .string t) (w' := w) ho e4 (by simp [execOp, e3, ev, evc, V6, x7 l w hw]) (by rw [e2]; exact go rfl (by decide) rfl)
    · obtain ⟨o', e1, e2, e3, e4, e5⟩ := o8
      obtain rfl := Option.some.inj (ho.symm.trans e1)
      have dp := dep_of' e5 hdep
      have U0 : a.tmps.getD 0 undef = .pointer (some ⟨x, 0, none⟩) := (kp 0 (by decide)).trans u0
      exact wpOp_value (v := .pointer (some ⟨x, 0, none⟩)) (w' := w) ho e4 (by simp [execOp, e3, ev, evc, U0]) (by rw [e2]; exact go rfl (by decide) rfl)
    · obtain ⟨o', e1, e2, e3, e4, e5⟩ := o9
      obtain rfl := Option.some.inj (ho.symm.trans e1)
      have dp := dep_of' e5 hdep
      have V8 : a.tmps.getD 33 undef = .pointer (some ⟨x, 0, none⟩) := hI.val 8 33 (by decide) rfl (dp 8 (by decide))
      exact wpOp_value (v := .pointer (some ⟨x, 0, none⟩)) (w' := w) ho e4 (by simp [execOp, e3, ev, evc, V8]) (by rw [e2]; exact go rfl (by decide) rfl)
    · obtain ⟨o', e1, e2, e3, e4, e5⟩ := o10
      obtain rfl := Option.some.inj (ho.symm.trans e1)
      have dp := dep_of' e5 hdep
      have V9 : a.tmps.getD 34 undef = .pointer (some ⟨x, 0, none⟩) := hI.val 9 34 (by decide) rfl (dp 9 (by decide))
      exact wpOp_value (v := .pointer (some ⟨x, 2, none⟩)) (w' := w) ho e4 (by simp [execOp, e3, ev, evc, V9, x10 w]) (by rw [e2]; exact go rfl (by decide) rfl)
    · obtain ⟨o', e1, e2, e3, e4, e5⟩ := o11
      obtain rfl := Option.some.inj (ho.symm.trans e1)
      have dp := dep_of' e5 hdep
      have V10 : a.tmps.getD 35 undef = .pointer (some ⟨x, 2, none⟩) := hI.val 10 35 (by decide) rfl (dp 10 (by decide))
      exact wpOp_value (v := .int .i64 (wd : Nat)) (w' := w) ho e4 (by simp [execOp, e3, ev, evc, V10, x11 l w hw]) (by rw [e2]; exact go rfl (by decide) rfl)
    · obtain ⟨o', e1, e2, e3, e4, e5⟩ := o12
      obtain rfl := Option.some.inj (ho.symm.trans e1)
      have dp := dep_of' e5 hdep
      have hb1 := below_new (Below.refl w.heap.size w) (.cells #[] 3)
      refine wpOp_value (v := .slice (some ⟨w.heap.size, 0, none⟩) 0 0) (w' := w.alloc (.cells #[] 3)) ho e4 (by simp [execOp, e3, run_build49]) ?_
      rw [e2]
      refine hI.put hi rfl (Nat.lt_of_lt_of_le (by decide) hs) (inj 37 rfl) ?_ ?_ (fun j u _ _ _ hf => rfF_below hf hb1)
      · exact below_then hw hb1
      · exact ⟨_, rfl, by rw [hw0s]; exact Below.size hw, heap_alloc_new w _⟩
    · obtain ⟨o', e1, e2, e3, e4, e5⟩ := o13
      obtain rfl := Option.some.inj (ho.symm.trans e1)
      have dp := dep_of' e5 hdep
      have U0 : a.tmps.getD 0 undef = .pointer (some ⟨x, 0, none⟩) := (kp 0 (by decide)).trans u0
      exact wpOp_value (v := .pointer (some ⟨x, 0, none⟩)) (w' := w) ho e4 (by simp [execOp, e3, ev, evc, U0]) (by rw [e2]; exact go rfl (by decide) rfl)
    · obtain ⟨o', e1, e2, e3, e4, e5⟩ := o14
      obtain rfl := Option.some.inj (ho.symm.trans e1)
      have dp := dep_of' e5 hdep
      have V13 : a.tmps.getD 38 undef = .pointer (some ⟨x, 0, none⟩) := hI.val 13 38 (by decide) rfl (dp 13 (by decide))
      exact wpOp_value (v := .pointer (some ⟨x, 0, none⟩)) (w' := w) ho e4 (by simp [execOp, e3, ev, evc, V13]) (by rw [e2]; exact go rfl (by decide) rfl)
    · obtain ⟨o', e1, e2, e3, e4, e5⟩ := o15
      obtain rfl := Option.some.inj (ho.symm.trans e1)
      have dp := dep_of' e5 hdep
      have V14 : a.tmps.getD 39 undef = .pointer (some ⟨x, 0, none⟩) := hI.val 14 39 (by decide) rfl (dp 14 (by decide))
      exact wpOp_value (v := .pointer (some ⟨x, 3, none⟩)) (w' := w) ho e4 (by simp [execOp, e3, ev, evc, V14, x15 w]) (by rw [e2]; exact go rfl (by decide) rfl)
    · obtain ⟨o', e1, e2, e3, e4, e5⟩ := o16
      obtain rfl := Option.some.inj (ho.symm.trans e1)
      have dp := dep_of' e5 hdep
      have V15 : a.tmps.getD 40 undef = .pointer (some ⟨x, 3, none⟩) := hI.val 15 40 (by decide) rfl (dp 15 (by decide))
      exact wpOp_value (v := .slice sa L c) (w' := w) ho e4 (by simp [execOp, e3, ev, evc, V15, x16 l w hw]) (by rw [e2]; exact go rfl (by decide) rfl)
    · obtain ⟨o', e1, e2, e3, e4, e5⟩ := o17
      obtain rfl := Option.some.inj (ho.symm.trans e1)
      have dp := dep_of' e5 hdep
      obtain ⟨g0, V12, fa12, fb12⟩ : ∃ g0, a.tmps.getD 37 undef = .slice (some ⟨g0, 0, none⟩) 0 0 ∧ w0s ≤ g0 ∧ w.heap[g0]? = some (.cells #[] 3 (0, 0)) := hI.val 12 37 (by decide) rfl (dp 12 (by decide))
      have V16 : a.tmps.getD 41 undef = .slice sa L c := hI.val 16 41 (by decide) rfl (dp 16 (by decide))
      obtain ⟨ca, cc, W2, hap, hrow, -, hb1⟩ := run_copyE (c := c) fb12 fa12 (by rw [hw0s]; exact Below.size hw) (hrd w hw) hn
      refine wpOp_value (v := .slice ca L cc) (w' := W2) ho e4 (by simp only [execOp, e3, resolve, invoke, builtin, Sem.run_bind, Sem.run_pure, Result.andThen_ok, List.map_toArray, List.map_cons, List.map_nil, ev , V12, V16, hty17 _ ho, hap]) ?_
      rw [e2]
      refine hI.put hi rfl (Nat.lt_of_lt_of_le (by decide) hs) (inj 42 rfl) ?_ ?_ (fun j u _ _ _ hf => rfF_below hf hb1)
      · exact below_then hw hb1
      · exact ⟨_, _, rfl, hrow⟩
    · obtain ⟨o', e1, e2, e3, e4, e5⟩ := o18
      obtain rfl := Option.some.inj (ho.symm.trans e1)
      have dp := dep_of' e5 hdep
      have U0 : a.tmps.getD 0 undef = .pointer (some ⟨x, 0, none⟩) := (kp 0 (by decide)).trans u0
      exact wpOp_value (v := .pointer (some ⟨x, 0, none⟩)) (w' := w) ho e4 (by simp [execOp, e3, ev, evc, U0]) (by rw [e2]; exact go rfl (by decide) rfl)
    · obtain ⟨o', e1, e2, e3, e4, e5⟩ := o19
      obtain rfl := Option.some.inj (ho.symm.trans e1)
      have dp := dep_of' e5 hdep
      have V18 : a.tmps.getD 43 undef = .pointer (some ⟨x, 0, none⟩) := hI.val 18 43 (by decide) rfl (dp 18 (by decide))
      exact wpOp_value (v := .pointer (some ⟨x, 0, none⟩)) (w' := w) ho e4 (by simp [execOp, e3, ev, evc, V18]) (by rw [e2]; exact go rfl (by decide) rfl)
    · obtain ⟨o', e1, e2, e3, e4, e5⟩ := o20
      obtain rfl := Option.some.inj (ho.symm.trans e1)
      have dp := dep_of' e5 hdep
      have V19 : a.tmps.getD 44 undef = .pointer (some ⟨x, 0, none⟩) := hI.val 19 44 (by decide) rfl (dp 19 (by decide))
      exact wpOp_value (v := .pointer (some ⟨x, 4, none⟩)) (w' := w) ho e4 (by simp [execOp, e3, ev, evc, V19, x20 w]) (by rw [e2]; exact go rfl (by decide) rfl)
    · obtain ⟨o', e1, e2, e3, e4, e5⟩ := o21
      obtain rfl := Option.some.inj (ho.symm.trans e1)
      have dp := dep_of' e5 hdep
      have V20 : a.tmps.getD 45 undef = .pointer (some ⟨x, 4, none⟩) := hI.val 20 45 (by decide) rfl (dp 20 (by decide))
      exact wpOp_value (v := .int .i64 (st : Nat)) (w' := w) ho e4 (by simp [execOp, e3, ev, evc, V20, x21 l w hw]) (by rw [e2]; exact go rfl (by decide) rfl)
    · obtain ⟨o', e1, e2, e3, e4, e5⟩ := o22
      obtain rfl := Option.some.inj (ho.symm.trans e1)
      have dp := dep_of' e5 hdep
      have U0 : a.tmps.getD 0 undef = .pointer (some ⟨x, 0, none⟩) := (kp 0 (by decide)).trans u0
      exact wpOp_value (v := .pointer (some ⟨x, 0, none⟩)) (w' := w) ho e4 (by simp [execOp, e3, ev, evc, U0]) (by rw [e2]; exact go rfl (by decide) rfl)
    · obtain ⟨o', e1, e2, e3, e4, e5⟩ := o23
      obtain rfl := Option.some.inj (ho.symm.trans e1)
      have dp := dep_of' e5 hdep
      have V22 : a.tmps.getD 47 undef = .pointer (some ⟨x, 0, none⟩) := hI.val 22 47 (by decide) rfl (dp 22 (by decide))
      exact wpOp_value (v := .pointer (some ⟨x, 0, none⟩)) (w' := w) ho e4 (by simp [execOp, e3, ev, evc, V22]) (by rw [e2]; exact go rfl (by decide) rfl)
    · obtain ⟨o', e1, e2, e3, e4, e5⟩ := o24
      obtain rfl := Option.some.inj (ho.symm.trans e1)
      have dp := dep_of' e5 hdep
      have V23 : a.tmps.getD 48 undef = .pointer (some ⟨x, 0, none⟩) := hI.val 23 48 (by decide) rfl (dp 23 (by decide))
      exact wpOp_value (v := .pointer (some ⟨x, 5, none⟩)) (w' := w) ho e4 (by simp [execOp, e3, ev, evc, V23, x24 w]) (by rw [e2]; exact go rfl (by decide) rfl)
    · obtain ⟨o', e1, e2, e3, e4, e5⟩ := o25
      obtain rfl := Option.some.inj (ho.symm.trans e1)
      have dp := dep_of' e5 hdep
      have V24 : a.tmps.getD 49 undef = .pointer (some ⟨x, 5, none⟩) := hI.val 24 49 (by decide) rfl (dp 24 (by decide))
      exact wpOp_value (v := .int .i64 (n : Nat)) (w' := w) ho e4 (by simp [execOp, e3, ev, evc, V24, x25 l w hw]) (by rw [e2]; exact go rfl (by decide) rfl)
    · obtain ⟨o', e1, e2, e3, e4, e5⟩ := o26
      obtain rfl := Option.some.inj (ho.symm.trans e1)
      have dp := dep_of' e5 hdep
      have V3 : a.tmps.getD 28 undef = .pointer (some ⟨b, 0, none⟩) := hI.val 3 28 (by decide) rfl (dp 3 (by decide))
      have V7 : a.tmps.getD 32 undef = .string t := hI.val 7 32 (by decide) rfl (dp 7 (by decide))
      have V11 : a.tmps.getD 36 undef = .int .i64 (wd : Nat) := hI.val 11 36 (by decide) rfl (dp 11 (by decide))
      obtain ⟨ca17, cc17, V17, f17⟩ : ∃ ca cc, a.tmps.getD 42 undef = .slice ca L cc ∧ RowI w0s w ca L cc P := hI.val 17 42 (by decide) rfl (dp 17 (by decide))
      have V21 : a.tmps.getD 46 undef = .int .i64 (st : Nat) := hI.val 21 46 (by decide) rfl (dp 21 (by decide))
      have V25 : a.tmps.getD 50 undef = .int .i64 (n : Nat) := hI.val 25 50 (by decide) rfl (dp 25 (by decide))
      have hb1 := Below.refl w.heap.size w
      refine wpOp_value (v := .agg #[.pointer (some ⟨b, 0, none⟩), .string t, .int .i64 (wd : Nat), .slice ca17 L cc17, .int .i64 (st : Nat), .int .i64 (n : Nat)]) (w' := w) ho e4 (by simp [execOp, e3, ev , V3, V7, V11, V17, V21, V25, run_build51]) ?_
      rw [e2]
      refine hI.put hi rfl (Nat.lt_of_lt_of_le (by decide) hs) (inj 51 rfl) ?_ ?_ (fun j u _ _ _ hf => rfF_below hf hb1)
      · exact below_then hw hb1
      · exact ⟨_, _, rfl, f17⟩
    · obtain ⟨o', e1, e2, e3, e4, e5⟩ := o27
      obtain rfl := Option.some.inj (ho.symm.trans e1)
      have dp := dep_of' e5 hdep
      obtain ⟨ca26, cc26, V26, f26⟩ : ∃ ca cc, a.tmps.getD 51 undef = .agg #[.pointer (some ⟨b, 0, none⟩), .string t, .int .i64 (wd : Nat), .slice ca L cc, .int .i64 (st : Nat), .int .i64 (n : Nat)] ∧ RowI w0s w ca L cc P := hI.val 26 51 (by decide) rfl (dp 26 (by decide))
      have hb1 := below_new (Below.refl w.heap.size w) (.cells #[.pointer (some ⟨b, 0, none⟩), .string t, .int .i64 (wd : Nat), .slice ca26 L cc26, .int .i64 (st : Nat), .int .i64 (n : Nat)] 51)
      refine wpOp_value (v := .pointer (some ⟨w.heap.size, 0, none⟩)) (w' := w.alloc (.cells #[.pointer (some ⟨b, 0, none⟩), .string t, .int .i64 (wd : Nat), .slice ca26 L cc26, .int .i64 (st : Nat), .int .i64 (n : Nat)] 51)) ho e4 (by simp [execOp, e3, ev , V26, run_box51]) ?_
      rw [e2]
      refine hI.put hi rfl (Nat.lt_of_lt_of_le (by decide) hs) (inj 52 rfl) ?_ ?_ (fun j u _ _ _ hf => rfF_below hf hb1)
      · exact below_then hw hb1
      · exact ⟨_, _, _, rfl, by rw [hw0s]; exact Below.size hw, heap_alloc_new w _, f26.below hb1⟩
    · obtain ⟨o', e1, e2, e3, e4, e5⟩ := o28
      obtain rfl := Option.some.inj (ho.symm.trans e1)
      have dp := dep_of' e5 hdep
      obtain ⟨g27, ca27, cc27, V27, fa27, fb27, f27⟩ : ∃ g2 ca cc, a.tmps.getD 52 undef = .pointer (some ⟨g2, 0, none⟩) ∧ w0s ≤ g2 ∧ w.heap[g2]? = some (.cells #[.pointer (some ⟨b, 0, none⟩), .string t, .int .i64 (wd : Nat), .slice ca L cc, .int .i64 (st : Nat), .int .i64 (n : Nat)] 51 (0, 0)) ∧ RowI w0s w ca L cc P := hI.val 27 52 (by decide) rfl (dp 27 (by decide))
      exact wpOp_value (v := .pointer (some ⟨g27, 0, none⟩)) (w' := w) ho e4 (by simp [execOp, e3, ev, evc, V27]) (by rw [e2]; exact go rfl (by decide) ⟨_, _, _, rfl, fa27, fb27, f27⟩)
  · intro l a w hall hI
    have all : ∀ j, j < 29 → l j = true := fun j hj => hall j (by rw [hsz]; exact hj)
    exact fin l a w all hI.size hI.defers hI.kept hI.world (fun i d hi hD => hI.val i d hi hD (all i hi))
end

end Go.Proofs.Ytgjjeggopeppfaa
