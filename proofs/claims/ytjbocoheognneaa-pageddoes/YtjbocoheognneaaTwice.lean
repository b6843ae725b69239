/- A row that is put behind itself, and its first number behind that, whatever the order of the operations. -/
import Derived.Test.YtjbocoheognneaaRows
import Derived.Test.YtjbocoheognneaaPages
import Derived.Test.YtjbocoheognneaaView
import Derived.Test.YtjbocoheognneaaOwn
import Derived.Test.YtjbocoheognneaaLeast
import Derived.Test.YtjbocoheognneaaInvIn
import Derived.Test.YtjbocoheognneaaPutReg
import Derived.WalkKit
import Derived.ProofKit
import Derived.OpenShut
import Derived.Below
import Derived.WalkLawsBesides
import Derived.Deep.QuietTactic
import Derived.BigQuiet
import Derived.RangeFuncNested
import Derived.RangeFuncBox
import Derived.RangeFuncBound
import Derived.RangeFuncCalls
import Derived.RangeFuncLeaves
import Derived.Shelf.Abstract
import Derived.Shelf.RegionOpen
import Derived.OwnWalkIn
import Derived.TacticsInMore
import Derived.LoopNIn
import Derived.LoopIn
import Derived.Orders
import Derived.Maps.AppendAt
import Derived.ArgAppend
namespace Go.Proofs.Ytjbocoheognneaa
open Go.ChangeShapes Go.WideShapes Go.ChangeAt Go.RowKit
set_option linter.unusedVariables false

set_option linter.unusedSimpArgs false

theorem run_build32 (w : World) : (Instr.buildSlice 32 0 #[]).run Try.prog w = .ok (.slice (some ⟨w.heap.size, 0, none⟩) 0 0) (w.alloc (.cells #[] 3)) := by go_simp
theorem run_build32' (w : World) (Z : Int) : (Instr.buildSlice 32 1 #[(0, .int .i64 Z)]).run Try.prog w = .ok (.slice (some ⟨w.heap.size, 0, none⟩) 1 1) (w.alloc (.cells #[.int .i64 Z] 3)) := by go_simp
theorem run_index32 (x : Addr) (L c : Nat) (h : 0 < L) (w : World) : (Instr.indexAt 32 (.slice (some x) L c) (.int .i64 0)).run Try.prog w = .ok (.pointer (some x)) w := by
  have h' : (0 : Int) < (L : Int) := by omega
  go_simp
theorem empty_own {t : TypeId} {w : World} {B g : Nat} (h : w.heap[g]? = some (.cells #[] t (0, 0))) (hg : B ≤ g) : w.ownsRow B t 1 (.slice (some ⟨g, 0, none⟩) 0 0) 0 [] :=
  ⟨rfl, .inr ⟨g, 0, #[], rfl, hg, h, Nat.le_refl _, Nat.zero_le _, rfl, rfl⟩⟩

/-- behind an append to a row of the call's own, in any world -/
theorem run_more {B : Nat} {w : World} {v : Value} {zs ys : List Int} {a : Addr} {m c : Nat} (ty : TypeId) (hv : w.ownsRow B 3 1 v zs.length (zs.map (Value.int .i64))) (hl : ys.length = m) (hy : ∀ i, i < m → w.cell? (a.add i) = some (.int .i64 (ys.getD i 0))) (hb : zs.length + m ≤ 100000) (hB : B ≤ w.heap.size) :
    ∃ v' w', (Builtin.append_ #[32, 32] ty #[v, .slice (some a) m c]).run Try.prog w = .ok v' w' ∧ w'.ownsRow B 3 1 v' (zs ++ ys).length ((zs ++ ys).map (Value.int .i64)) ∧ w.grownBy w' v.ownBlock ∧ (v'.ownBlock = v.ownBlock ∨ v'.ownBlock = some w.heap.size) := by
  obtain ⟨i0, hi, hz0, hz1, hz2⟩ := info_parts info3
  obtain ⟨v', w', hr, ho, hg, _, hb'⟩ := run_append_own_at (P := Try.prog) (w := w) B 32 ty 3 i0 _ 1 8 Try.underlying32 hi hz0 hz1 hz2 rfl (by decide) v zs.length _ hv a m c (ys.map (Value.int .i64)) (by simpa using hl)
    (fun j u hj => by
      have hjm : j < m := by have := (List.getElem?_eq_some_iff.1 hj).1; rw [List.length_map] at this; omega
      rw [hy j hjm, ← hj, ints_at ys j (by omega)])
    (fun u hu => by obtain ⟨z, _, rfl⟩ := List.mem_map.1 hu; rfl) (by unfold maxLen; omega) (by omega) hB
  refine ⟨v', w', hr, ?_, hg, hb'⟩
  rw [List.length_append, List.map_append, hl]
  exact ho

def twD (i : Nat) : Option Nat := match i with | 0 => some 58 | 1 => some 59 | 2 => some 60 | 3 => some 61 | 4 => some 62 | 5 => some 63 | 6 => some 64 | 7 => some 65 | 8 => some 66 | 9 => some 67 | 10 => some 8 | _ => none
theorem twD_inj : ∀ i, i < 11 → ∀ j, j < 11 → twD i = twD j → twD i ≠ none → i = j := by decide
theorem twD_lt : ∀ i, i < 11 → ∀ d, twD i = some d → d < 68 := by
  intro i hi d h
  have : ∀ i, i < 11 → (twD i).all (fun d => decide (d < 68)) = true := by decide
  have := this i hi
  rw [h] at this
  simpa using this
def twF (x : Addr) (L c : Nat) (Z : Int) (i : Nat) (q : Value) : Prop := match i with
  | 1 => q = .slice (some x) L c
  | 3 => q = .slice (some x) L c
  | 5 => q = .slice (some x) L c
  | 6 => q = .pointer (some x)
  | 7 => q = .int .i64 Z
  | _ => True

/-- the row that is being made, and the one cell: in which slots they are, what they hold -/
def twR (w0 : World) (P : List Int) (Z : Int) (l : Nat → Bool) (a : Act) (w : World) : Prop :=
  Below w0.heap.size w0 w ∧
  (∀ s zs, ((s = 58 ∧ zs = [] ∧ l 0 = true ∧ l 2 = false) ∨ (s = 60 ∧ zs = P ∧ l 2 = true ∧ l 4 = false) ∨ (s = 62 ∧ zs = P ++ P ∧ l 4 = true ∧ l 9 = false) ∨ (s = 67 ∧ zs = P ++ P ++ [Z] ∧ l 9 = true) ∨ (s = 8 ∧ zs = P ++ P ++ [Z] ∧ l 10 = true)) →
    w.ownsRow w0.heap.size 3 1 (a.tmps.getD s undef) zs.length (zs.map (Value.int .i64)) ∧ (l 8 = true → l 9 = false → (a.tmps.getD s undef).ownBlock ≠ (a.tmps.getD 66 undef).ownBlock)) ∧
  (l 8 = true → l 9 = false → ∃ g, a.tmps.getD 66 undef = .slice (some ⟨g, 0, none⟩) 1 1 ∧ Boxed w g 3 (.int .i64 Z))

set_option maxHeartbeats 8000000 in
theorem twice_region {id : Nat} {ops : Array Oper} {Q : Exit → Act → World → Prop} {a0 : Act} {w0 : World} (P : List Int) (Z : Int) (x : Addr) (L c : Nat) (hlow : lowB ops = true) (hsz : ops.size = 11)
    (o0 : OpIn ops 0 (some 58) (.buildSlice 32 0 #[]) none []) (o1 : OpIn ops 1 (some 59) (.move (.tmp 5)) none []) (o2 : OpIn ops 2 (some 60) (.call { callee := .builtin .append, args := #[.tmp 58, .tmp 59], argTypes := #[32, 32] }) none [0, 1]) (o3 : OpIn ops 3 (some 61) (.move (.tmp 5)) none []) (o4 : OpIn ops 4 (some 62) (.call { callee := .builtin .append, args := #[.tmp 60, .tmp 61], argTypes := #[32, 32] }) none [2, 3]) (o5 : OpIn ops 5 (some 63) (.move (.tmp 5)) none []) (o6 : OpIn ops 6 (some 64) (.indexAddr 32 (.tmp 63) (.const (.int .i64 0))) none [5]) (o7 : OpIn ops 7 (some 65) (.load 3 (.tmp 64)) none [6]) (o8 : OpIn ops 8 (some 66) (.buildSlice 32 1 #[(0, .tmp 65)]) none [7]) (o9 : OpIn ops 9 (some 67) (.call { callee := .builtin .append, args := #[.tmp 62, .tmp 66], argTypes := #[32, 32] }) none [4, 8]) (o10 : OpIn ops 10 (some 8) (.assign (.tmp 67)) none [9])
    (h5 : a0.tmps.getD 5 undef = .slice (some x) L c) (hlen : P.length = L) (hL0 : 0 < L) (hL : L ≤ 1000) (hcell : ∀ w, Below w0.heap.size w0 w → ∀ i, i < L → w.cell? (x.add i) = some (.int .i64 (P.getD i 0))) (hZ : P.getD 0 0 = Z) (hx : x.add 0 = x)
    (hs : 68 ≤ a0.tmps.size)
    (fin : ∀ a w, a.tmps.size = a0.tmps.size → a.defers = a0.defers → (∀ s, (∀ i, i < 11 → twD i ≠ some s) → a.tmps.getD s undef = a0.tmps.getD s undef) → Below w0.heap.size w0 w → w.ownsRow w0.heap.size 3 1 (a.tmps.getD 8 undef) (P ++ P ++ [Z]).length ((P ++ P ++ [Z]).map (Value.int .i64)) → Q .normal a w) :
    (Code.region id ops true).wp Try.prog Q a0 w0 := by
  refine wp_region_inv2 (by kernel_rfl) hlow (Inv 11 twD a0 (twR w0 P Z) (fun _ i q _ => twF x L c Z i q)) (Inv.start ⟨⟨rfl, rfl, rfl, Nat.le_refl _, fun _ _ => rfl⟩, fun s zs h => by simp at h, fun h => by cases h⟩) ?_ ?_
  · intro l i o a w ho hl hcl hdep hI
    have hi : i < 11 := by rw [← hsz]; exact (Array.getElem?_eq_some_iff.1 ho).1
    have ev : ∀ (s : Nat), a.eval (.tmp s) = a.tmps.getD s undef := fun _ => rfl
    have evc : ∀ c : Value, a.eval (.const c) = c := fun _ => rfl
    have inj : ∀ d, twD i = some d → ∀ j d', j < 11 → twD j = some d' → j ≠ i → d' ≠ d := fun d hd j d' hj hd' hne e => hne (twD_inj j hj i hi (by rw [hd', hd, e]) (by rw [hd']; simp))
    have kp : ∀ s, (∀ i, i < 11 → twD i ≠ some s) → a.tmps.getD s undef = a0.tmps.getD s undef := hI.kept
    have oth : ∀ j, j ≠ i → (l j || j == i) = l j := fun j hj => by rw [show (j == i) = false by simp [hj], Bool.or_false]
    have sam : (l i || i == i) = true := by simp
    have get : ∀ (d : Nat) (v : Value) (s : Nat), d < 68 → s ≠ d → (a.put (some d) v).tmps.getD s undef = a.tmps.getD s undef := fun d v s hd hs' => by
      rw [get_put a d v s (by rw [hI.size]; exact Nat.lt_of_lt_of_le hd hs), if_neg hs']
    have got : ∀ (d : Nat) (v : Value), d < 68 → (a.put (some d) v).tmps.getD d undef = v := fun d v hd => by
      rw [get_put a d v d (by rw [hI.size]; exact Nat.lt_of_lt_of_le hd hs), if_pos rfl]
    obtain ⟨hB, hrow, hone⟩ := hI.world
    have hBs := hB.size
    have pure_ : ∀ {d : Nat} {v : Value}, twD i = some d → (i = 1 ∨ i = 3 ∨ i = 5 ∨ i = 6 ∨ i = 7) → twF x L c Z i v → Inv 11 twD a0 (twR w0 P Z) (fun _ i q _ => twF x L c Z i q) (fun j => l j || j == i) (a.put (some d) v) w := by
      intro d v hD hi' hF
      have hd := twD_lt i hi d hD
      have nd : d ≠ 58 ∧ d ≠ 60 ∧ d ≠ 62 ∧ d ≠ 67 ∧ d ≠ 8 ∧ d ≠ 66 := by
        rcases hi' with rfl | rfl | rfl | rfl | rfl <;> (simp only [twD, Option.some.injEq] at hD; subst hD; decide)
      refine hI.put hi hD (Nat.lt_of_lt_of_le hd hs) (inj d hD) ⟨hB, fun s zs h => ?_, fun h8 h9 => ?_⟩ hF (fun j u _ _ _ hf => hf)
      · dsimp only at h ⊢
        rw [oth 0 (by omega), oth 2 (by omega), oth 4 (by omega), oth 9 (by omega), oth 10 (by omega)] at h
        have hs' : s ≠ d := by rcases h with h | h | h | h | h <;> omega
        rw [oth 8 (by omega), oth 9 (by omega), get d v s hd hs', get d v 66 hd (Ne.symm nd.2.2.2.2.2)]
        exact hrow s zs h
      · dsimp only at h8 h9
        rw [oth 8 (by omega)] at h8
        rw [oth 9 (by omega)] at h9
        rw [get d v 66 hd (Ne.symm nd.2.2.2.2.2)]
        exact hone h8 h9
    rcases (show i = 0 ∨ i = 1 ∨ i = 2 ∨ i = 3 ∨ i = 4 ∨ i = 5 ∨ i = 6 ∨ i = 7 ∨ i = 8 ∨ i = 9 ∨ i = 10 by omega) with rfl | rfl | rfl | rfl | rfl | rfl | rfl | rfl | rfl | rfl | rfl
    · obtain ⟨o', e1, e2, e3, e4, e5⟩ := o0
      obtain rfl := Option.some.inj (ho.symm.trans e1)
      have dp := dep_of' e5 hdep
      have n2 : l 2 = false := by cases e : l 2 with | false => rfl | true => have := hcl.dep' o2 e 0 (by decide); rw [hl] at this; cases this
      have n4 : l 4 = false := by cases e : l 4 with | false => rfl | true => have := hcl.dep' o4 e 2 (by decide); rw [n2] at this; cases this
      have n9 : l 9 = false := by cases e : l 9 with | false => rfl | true => have := hcl.dep' o9 e 4 (by decide); rw [n4] at this; cases this
      have n10 : l 10 = false := by cases e : l 10 with | false => rfl | true => have := hcl.dep' o10 e 9 (by decide); rw [n9] at this; cases this
      refine wpOp_value (v := .slice (some ⟨w.heap.size, 0, none⟩) 0 0) (w' := w.alloc (.cells #[] 3)) ho e4 (by simp [execOp, e3, run_build32]) ?_
      rw [e2]
      have b1 := below_new (Below.refl w.heap.size w) (.cells #[] 3)
      refine hI.put hi rfl (Nat.lt_of_lt_of_le (by decide) hs) (inj 58 rfl) ⟨hB.trans (b1.mono hBs), fun s zs h => ?_, fun h8 h9 => ?_⟩ trivial (fun j u _ _ _ hf => hf)
      · dsimp only at h ⊢
        rw [oth 2 (by decide), oth 4 (by decide), oth 9 (by decide), oth 10 (by decide), n2, n4, n9, n10] at h
        obtain ⟨rfl, rfl⟩ : s = 58 ∧ zs = [] := by
          rcases h with h | h | h | h | h
          · exact ⟨h.1, h.2.1⟩
          all_goals simp at h
        rw [got 58 _ (by decide), get 58 _ 66 (by decide) (by decide), oth 8 (by decide), oth 9 (by decide)]
        refine ⟨empty_own (heap_alloc_new w _) hBs, fun h8 h9 => ?_⟩
        obtain ⟨g, eg, hg⟩ := hone h8 h9
        rw [eg]
        have := hg.lt
        simp only [Value.ownBlock, ne_eq, Option.some.injEq]
        omega
      · dsimp only at h8 h9
        rw [oth 8 (by decide)] at h8
        rw [oth 9 (by decide)] at h9
        rw [get 58 _ 66 (by decide) (by decide)]
        obtain ⟨g, eg, hg⟩ := hone h8 h9
        exact ⟨g, eg, hg.alloc _⟩
    · obtain ⟨o', e1, e2, e3, e4, e5⟩ := o1
      obtain rfl := Option.some.inj (ho.symm.trans e1)
      have dp := dep_of' e5 hdep
      exact wpOp_value (v := .slice (some x) L c) (w' := w) ho e4 (by simp [execOp, e3, ev, evc, kp 5 (by decide), h5]) (by rw [e2]; exact pure_ rfl (by decide) rfl)
    · obtain ⟨o', e1, e2, e3, e4, e5⟩ := o2
      obtain rfl := Option.some.inj (ho.symm.trans e1)
      have dp := dep_of' e5 hdep
      have V1 : a.tmps.getD 59 undef = .slice (some x) L c := hI.val 1 59 (by decide) rfl (dp 1 (by decide))
      have n4 : l 4 = false := by cases e : l 4 with | false => rfl | true => have := hcl.dep' o4 e 2 (by decide); rw [hl] at this; cases this
      have n9 : l 9 = false := by cases e : l 9 with | false => rfl | true => have := hcl.dep' o9 e 4 (by decide); rw [n4] at this; cases this
      have n10 : l 10 = false := by cases e : l 10 with | false => rfl | true => have := hcl.dep' o10 e 9 (by decide); rw [n9] at this; cases this
      obtain ⟨hv, hvn⟩ := hrow 58 [] (.inl ⟨rfl, rfl, dp 0 (by decide), hl⟩)
      obtain ⟨v', w', hr, ho', hg, hbk⟩ := run_more (c := c) o.type hv hlen (hcell w hB) (by first | omega | (simp; omega)) hBs
      refine wpOp_value (v := v') (w' := w') ho e4 (by simp only [execOp, e3, resolve, invoke, builtin, Sem.run_bind, Sem.run_pure, Result.andThen_ok, List.map_toArray, List.map_cons, List.map_nil, ev, V1, hr]) ?_
      rw [e2]
      have b1 : Below w0.heap.size w0 w' := hB.grown hg hBs (fun k e => (hv.lt k e).1)
      refine hI.put hi rfl (Nat.lt_of_lt_of_le (by decide) hs) (inj 60 rfl) ⟨b1, fun s zs h => ?_, fun h8 h9 => ?_⟩ trivial (fun j u _ _ _ hf => hf)
      · dsimp only at h ⊢
        rw [oth 0 (by decide), sam, oth 4 (by decide), oth 9 (by decide), oth 10 (by decide), n4, n9, n10] at h
        obtain ⟨rfl, rfl⟩ : s = 60 ∧ zs = P := by
          rcases h with h | h | h | h | h
          · simp at h
          · exact ⟨h.1, h.2.1⟩
          all_goals simp at h
        rw [got 60 _ (by decide), get 60 _ 66 (by decide) (by decide), oth 8 (by decide), oth 9 (by decide)]
        refine ⟨by simpa using ho', fun h8 h9 => ?_⟩
        obtain ⟨g, eg, hgx⟩ := hone h8 h9
        have hne := hvn h8 h9
        rw [eg] at hne ⊢
        rcases hbk with hbk | hbk
        · rw [hbk]; exact hne
        · rw [hbk]
          have := hgx.lt
          simp only [Value.ownBlock, ne_eq, Option.some.injEq]
          omega
      · dsimp only at h8 h9
        rw [oth 8 (by decide)] at h8
        rw [oth 9 (by decide)] at h9
        rw [get 60 _ 66 (by decide) (by decide)]
        obtain ⟨g, eg, hgx⟩ := hone h8 h9
        have hne := hvn h8 h9
        rw [eg] at hne
        exact ⟨g, eg, hgx.kept hg (fun e => hne (by rw [← e]; rfl))⟩
    · obtain ⟨o', e1, e2, e3, e4, e5⟩ := o3
      obtain rfl := Option.some.inj (ho.symm.trans e1)
      have dp := dep_of' e5 hdep
      exact wpOp_value (v := .slice (some x) L c) (w' := w) ho e4 (by simp [execOp, e3, ev, evc, kp 5 (by decide), h5]) (by rw [e2]; exact pure_ rfl (by decide) rfl)
    · obtain ⟨o', e1, e2, e3, e4, e5⟩ := o4
      obtain rfl := Option.some.inj (ho.symm.trans e1)
      have dp := dep_of' e5 hdep
      have V3 : a.tmps.getD 61 undef = .slice (some x) L c := hI.val 3 61 (by decide) rfl (dp 3 (by decide))
      have n9 : l 9 = false := by cases e : l 9 with | false => rfl | true => have := hcl.dep' o9 e 4 (by decide); rw [hl] at this; cases this
      have n10 : l 10 = false := by cases e : l 10 with | false => rfl | true => have := hcl.dep' o10 e 9 (by decide); rw [n9] at this; cases this
      obtain ⟨hv, hvn⟩ := hrow 60 P (.inr (.inl ⟨rfl, rfl, dp 2 (by decide), hl⟩))
      obtain ⟨v', w', hr, ho', hg, hbk⟩ := run_more (c := c) o.type hv hlen (hcell w hB) (by first | omega | (simp; omega)) hBs
      refine wpOp_value (v := v') (w' := w') ho e4 (by simp only [execOp, e3, resolve, invoke, builtin, Sem.run_bind, Sem.run_pure, Result.andThen_ok, List.map_toArray, List.map_cons, List.map_nil, ev, V3, hr]) ?_
      rw [e2]
      have b1 : Below w0.heap.size w0 w' := hB.grown hg hBs (fun k e => (hv.lt k e).1)
      refine hI.put hi rfl (Nat.lt_of_lt_of_le (by decide) hs) (inj 62 rfl) ⟨b1, fun s zs h => ?_, fun h8 h9 => ?_⟩ trivial (fun j u _ _ _ hf => hf)
      · dsimp only at h ⊢
        rw [oth 0 (by decide), oth 2 (by decide), sam, oth 9 (by decide), oth 10 (by decide), n9, n10, dp 2 (by decide)] at h
        obtain ⟨rfl, rfl⟩ : s = 62 ∧ zs = P ++ P := by
          rcases h with h | h | h | h | h
          · simp at h
          · simp at h
          · exact ⟨h.1, h.2.1⟩
          all_goals simp at h
        rw [got 62 _ (by decide), get 62 _ 66 (by decide) (by decide), oth 8 (by decide), oth 9 (by decide)]
        refine ⟨by simpa using ho', fun h8 h9 => ?_⟩
        obtain ⟨g, eg, hgx⟩ := hone h8 h9
        have hne := hvn h8 h9
        rw [eg] at hne ⊢
        rcases hbk with hbk | hbk
        · rw [hbk]; exact hne
        · rw [hbk]
          have := hgx.lt
          simp only [Value.ownBlock, ne_eq, Option.some.injEq]
          omega
      · dsimp only at h8 h9
        rw [oth 8 (by decide)] at h8
        rw [oth 9 (by decide)] at h9
        rw [get 62 _ 66 (by decide) (by decide)]
        obtain ⟨g, eg, hgx⟩ := hone h8 h9
        have hne := hvn h8 h9
        rw [eg] at hne
        exact ⟨g, eg, hgx.kept hg (fun e => hne (by rw [← e]; rfl))⟩
    · obtain ⟨o', e1, e2, e3, e4, e5⟩ := o5
      obtain rfl := Option.some.inj (ho.symm.trans e1)
      have dp := dep_of' e5 hdep
      exact wpOp_value (v := .slice (some x) L c) (w' := w) ho e4 (by simp [execOp, e3, ev, evc, kp 5 (by decide), h5]) (by rw [e2]; exact pure_ rfl (by decide) rfl)
    · obtain ⟨o', e1, e2, e3, e4, e5⟩ := o6
      obtain rfl := Option.some.inj (ho.symm.trans e1)
      have dp := dep_of' e5 hdep
      have V5 : a.tmps.getD 63 undef = .slice (some x) L c := hI.val 5 63 (by decide) rfl (dp 5 (by decide))
      exact wpOp_value (v := .pointer (some x)) (w' := w) ho e4 (by simp [execOp, e3, ev, evc, V5, run_index32 x L c hL0]) (by rw [e2]; exact pure_ rfl (by decide) rfl)
    · obtain ⟨o', e1, e2, e3, e4, e5⟩ := o7
      obtain rfl := Option.some.inj (ho.symm.trans e1)
      have dp := dep_of' e5 hdep
      have V6 : a.tmps.getD 64 undef = .pointer (some x) := hI.val 6 64 (by decide) rfl (dp 6 (by decide))
      have cz : w.cell? x = some (.int .i64 Z) := by have := hcell w hB 0 hL0; rw [hx, hZ] at this; exact this
      exact wpOp_value (v := .int .i64 Z) (w' := w) ho e4 (by simp [execOp, e3, ev, evc, V6, run_load3 cz]) (by rw [e2]; exact pure_ rfl (by decide) rfl)
    · obtain ⟨o', e1, e2, e3, e4, e5⟩ := o8
      obtain rfl := Option.some.inj (ho.symm.trans e1)
      have dp := dep_of' e5 hdep
      have V7 : a.tmps.getD 65 undef = .int .i64 Z := hI.val 7 65 (by decide) rfl (dp 7 (by decide))
      have n9 : l 9 = false := by cases e : l 9 with | false => rfl | true => have := hcl.dep' o9 e 8 (by decide); rw [hl] at this; cases this
      have n10 : l 10 = false := by cases e : l 10 with | false => rfl | true => have := hcl.dep' o10 e 9 (by decide); rw [n9] at this; cases this
      refine wpOp_value (v := .slice (some ⟨w.heap.size, 0, none⟩) 1 1) (w' := w.alloc (.cells #[.int .i64 Z] 3)) ho e4 (by simp [execOp, e3, ev, V7, run_build32']) ?_
      rw [e2]
      have b1 := below_new (Below.refl w.heap.size w) (.cells #[.int .i64 Z] 3)
      refine hI.put hi rfl (Nat.lt_of_lt_of_le (by decide) hs) (inj 66 rfl) ⟨hB.trans (b1.mono hBs), fun s zs h => ?_, fun h8 h9 => ?_⟩ trivial (fun j u _ _ _ hf => hf)
      · dsimp only at h ⊢
        rw [oth 0 (by decide), oth 2 (by decide), oth 4 (by decide), oth 9 (by decide), oth 10 (by decide)] at h
        have hs' : s ≠ 66 := by rcases h with h | h | h | h | h <;> omega
        obtain ⟨hv, _⟩ := hrow s zs h
        rw [get 66 _ s (by decide) hs', got 66 _ (by decide)]
        refine ⟨hv.alloc _, fun _ _ e => ?_⟩
        have := (hv.lt w.heap.size (by rw [e]; rfl)).2
        omega
      · rw [got 66 _ (by decide)]
        exact ⟨_, rfl, Boxed.new w 3 _⟩
    · obtain ⟨o', e1, e2, e3, e4, e5⟩ := o9
      obtain rfl := Option.some.inj (ho.symm.trans e1)
      have dp := dep_of' e5 hdep
      have n10 : l 10 = false := by cases e : l 10 with | false => rfl | true => have := hcl.dep' o10 e 9 (by decide); rw [hl] at this; cases this
      obtain ⟨hv, hvn⟩ := hrow 62 (P ++ P) (.inr (.inr (.inl ⟨rfl, rfl, dp 4 (by decide), hl⟩)))
      obtain ⟨g, eg, hgx⟩ := hone (dp 8 (by decide)) hl
      obtain ⟨v', w', hr, ho', hg, hbk⟩ := run_more (c := 1) (ys := [Z]) (a := ⟨g, 0, none⟩) (m := 1) o.type hv rfl (fun i hi => by have h0 : i = 0 := (by omega); subst h0; exact hgx.cell) (by first | omega | (simp; omega)) hBs
      refine wpOp_value (v := v') (w' := w') ho e4 (by simp only [execOp, e3, resolve, invoke, builtin, Sem.run_bind, Sem.run_pure, Result.andThen_ok, List.map_toArray, List.map_cons, List.map_nil, ev, eg, hr]) ?_
      rw [e2]
      have b1 : Below w0.heap.size w0 w' := hB.grown hg hBs (fun k e => (hv.lt k e).1)
      refine hI.put hi rfl (Nat.lt_of_lt_of_le (by decide) hs) (inj 67 rfl) ⟨b1, fun s zs h => ?_, fun h8 h9 => ?_⟩ trivial (fun j u _ _ _ hf => hf)
      · dsimp only at h ⊢
        rw [oth 0 (by decide), oth 2 (by decide), oth 4 (by decide), sam, oth 10 (by decide), n10, dp 4 (by decide), hcl.dep' o4 (dp 4 (by decide)) 2 (by decide)] at h
        obtain ⟨rfl, rfl⟩ : s = 67 ∧ zs = P ++ P ++ [Z] := by
          rcases h with h | h | h | h | h
          · simp at h
          · simp at h
          · simp at h
          · exact ⟨h.1, h.2.1⟩
          · simp at h
        rw [got 67 _ (by decide)]
        refine ⟨by simpa using ho', fun h8 h9 => ?_⟩
        rw [sam] at h9
        cases h9
      · dsimp only at h9
        rw [sam] at h9
        cases h9
    · obtain ⟨o', e1, e2, e3, e4, e5⟩ := o10
      obtain rfl := Option.some.inj (ho.symm.trans e1)
      have dp := dep_of' e5 hdep
      obtain ⟨hv, hvn⟩ := hrow 67 (P ++ P ++ [Z]) (.inr (.inr (.inr (.inl ⟨rfl, rfl, dp 9 (by decide)⟩))))
      refine wpOp_value (v := a.tmps.getD 67 undef) (w' := w) ho e4 (by simp [execOp, e3, ev]) ?_
      rw [e2]
      have d9 := dp 9 (by decide)
      refine hI.put hi rfl (Nat.lt_of_lt_of_le (by decide) hs) (inj 8 rfl) ⟨hB, fun s zs h => ?_, fun h8 h9 => ?_⟩ trivial (fun j u _ _ _ hf => hf)
      · dsimp only at h ⊢
        rw [oth 0 (by decide), oth 2 (by decide), oth 4 (by decide), oth 9 (by decide), sam] at h
        rw [oth 8 (by decide), oth 9 (by decide), d9]
        refine ⟨?_, fun _ h9 => by cases h9⟩
        rcases h with h | h | h | h | h
        · rw [get 8 _ s (by decide) (by omega)]
          exact (hrow s zs (.inl h)).1
        · rw [get 8 _ s (by decide) (by omega)]
          exact (hrow s zs (.inr (.inl h))).1
        · rw [d9] at h; simp at h
        · rw [get 8 _ s (by decide) (by omega)]
          exact (hrow s zs (.inr (.inr (.inr (.inl h))))).1
        · obtain ⟨rfl, rfl, _⟩ := h
          rw [got 8 _ (by decide)]
          exact hv
      · dsimp only at h9
        rw [oth 9 (by decide), d9] at h9
        cases h9
  · intro l a w hall hI
    have all : ∀ j, j < 11 → l j = true := fun j hj => hall j (by rw [hsz]; exact hj)
    obtain ⟨hB, hrow, _⟩ := hI.world
    exact fin a w hI.size hI.defers hI.kept hB (hrow 8 _ (.inr (.inr (.inr (.inr ⟨rfl, rfl, all 10 (by decide)⟩))))).1

end Go.Proofs.Ytjbocoheognneaa
