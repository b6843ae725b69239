/- Two copies of networks side by side: they lie apart. -/
import Derived.Test.YtlpmndlefbghoaaRows
import Derived.Test.YtlpmndlefbghoaaView
import Derived.Test.YtlpmndlefbghoaaOwn
import Derived.Test.YtlpmndlefbghoaaSteps
import Derived.Test.YtlpmndlefbghoaaGrids
import Derived.Test.YtlpmndlefbghoaaInvIn
import Derived.Test.YtlpmndlefbghoaaHeld
import Derived.Test.YtlpmndlefbghoaaXpNeed
import Derived.Test.YtlpmndlefbghoaaXpGridB
import Derived.Test.YtlpmndlefbghoaaRegZ
import Derived.WalkKit
import Derived.ProofKit
import Derived.OpenShut
import Derived.Below
import Derived.WalkLawsBesides
import Derived.Deep.QuietTactic
import Derived.BigQuiet
import Derived.Orders
import Derived.Shelf.Abstract
namespace Go.Proofs.Ytlpmndlefbghoaa
open Go.ChangeShapes Go.WideShapes Go.ChangeAt Go.RowKit
set_option linter.unusedVariables false
set_option linter.unusedSimpArgs false

theorem own_lower {w : World} {base base' : Nat} {e : TypeId} {size : Nat} {v : Value} {n : Nat} {xs : List Value} (h : w.ownsRow base e size v n xs) (hb : base' ≤ base) : w.ownsRow base' e size v n xs :=
  ⟨h.1, h.2.imp id fun ⟨g, cap, cur, h1, h2, h3⟩ => ⟨g, cap, cur, h1, Nat.le_trans hb h2, h3⟩⟩

/-- networks of the call's own, all in blocks from lo on, below hi -/
def NetF (B : Nat) (w : World) (q : Value) (n : Nat) (R : Nat → List Int) (lo hi : Nat) : Prop :=
  ∃ g c A C, q = .slice (some ⟨g, 0, none⟩) n c ∧ Nets w (some ⟨g, 0, none⟩) n A C R ∧ OwnGridB B w (.slice (some ⟨g, 0, none⟩) n c) n A C R ∧ lo ≤ g ∧ g < hi ∧ (∀ r, r < n → 0 < (R r).length → ∀ x, A r = some x → lo ≤ x.block ∧ x.block < hi) ∧ hi ≤ w.heap.size

theorem NetF.below {B : Nat} {w w' : World} {q : Value} {n : Nat} {R : Nat → List Int} {lo hi : Nat} (h : NetF B w q n R lo hi) (hb : Below w.heap.size w w') : NetF B w' q n R lo hi := by
  obtain ⟨g, c, A, C, h1, h2, h3, h4, h5, h6, h7⟩ := h
  exact ⟨g, c, A, C, h1, h2.below hb, h3.below hb, h4, h5, h6, Nat.le_trans h7 hb.size⟩

/-- what own leaves of networks that are there -/
theorem own_netF (a0 : Option Addr) (n0 c0 : Nat) (A0 : Nat → Option Addr) (C0 : Nat → Nat) (R0 : Nat → List Int) (B : Nat) (w : World) (w0 : Nets w a0 n0 A0 C0 R0) (b0 : n0 * 24 ≤ 140737488351232) (hn : 0 < n0) (hB : B ≤ w.heap.size) :
    Calls Try.prog 10 #[.slice a0 n0 c0] w fun e w' => ∃ lo hi v, e = .returned v ∧ w.heap.size ≤ lo ∧ NetF B w' v n0 R0 lo hi ∧ Below w.heap.size w w' := by
  refine (own_call a0 n0 c0 A0 C0 R0 w w0 b0).mono ?_
  rintro e w' ⟨⟨a, c, A, C, rfl, h1, h2, h3⟩, h4⟩
  refine ⟨w.heap.size, w'.heap.size, _, rfl, Nat.le_refl _, ?_, h4⟩
  rcases h2.own.2 with ⟨hv, hn0⟩ | ⟨g, cap, cur, hv, hg, hh, _⟩
  · exact absurd hn0 (by omega)
  · simp only [Value.slice.injEq] at hv
    obtain ⟨rfl, -, -⟩ := hv
    refine ⟨g, c, A, C, rfl, h1, ⟨own_lower h2.own hB, h2.row, h2.apart⟩, hg, (Array.getElem?_eq_some_iff.1 hh).1, fun r hr hl x hx => ⟨h3 r hr x hx, ?_⟩, Nat.le_refl _⟩
    have q := (h1.grid.row r hr).cell x hx 0 hl
    have := World.block_lt_of_cell? w' _ q
    simpa [Addr.add] using this

/-- two of them, apart -/
def NetJ (B : Nat) (w : World) (q1 q2 : Value) (n m : Nat) (R1 R2 : Nat → List Int) : Prop :=
  ∃ lo hi lo' hi', NetF B w q1 n R1 lo hi ∧ NetF B w q2 m R2 lo' hi' ∧ (hi ≤ lo' ∨ hi' ≤ lo)

def eoD (i : Nat) : Option Nat := match i with | 0 => some 70 | 1 => some 71 | 2 => some 72 | 3 => some 73 | 4 => some 74 | 5 => some 75 | 6 => some 10 | 7 => some 11 | _ => none
theorem eoD_inj : ∀ i, i < 8 → ∀ j, j < 8 → eoD i = eoD j → eoD i ≠ none → i = j := by decide
theorem eoD_lt : ∀ i, i < 8 → ∀ d, eoD i = some d → d < 129 := by
  intro i hi d h
  have : ∀ i, i < 8 → (eoD i).all (fun d => decide (d < 129)) = true := by decide
  have := this i hi
  rw [h] at this
  simpa using this
def eoF (b0 B un uc dn dc : Nat) (ua da : Option Addr) (UU DD : Nat → List Int) (i : Nat) (q : Value) (w : World) : Prop := match i with
  | 0 => q = .pointer (some ⟨b0, 1, none⟩)
  | 1 => q = .slice ua un uc
  | 2 => ∃ lo hi, NetF B w q un UU lo hi
  | 3 => q = .pointer (some ⟨b0, 2, none⟩)
  | 4 => q = .slice da dn dc
  | 5 => ∃ lo hi, NetF B w q dn DD lo hi
  | _ => True
theorem eoF_below {b0 B un uc dn dc : Nat} {ua da : Option Addr} {UU DD : Nat → List Int} {i : Nat} {q : Value} {w w' : World} (h : eoF b0 B un uc dn dc ua da UU DD i q w) (hb : Below w.heap.size w w') : eoF b0 B un uc dn dc ua da UU DD i q w' := by
  unfold eoF at h ⊢
  split
  · exact h
  · exact h
  · obtain ⟨lo, hi, h⟩ := h; exact ⟨lo, hi, h.below hb⟩
  · exact h
  · exact h
  · obtain ⟨lo, hi, h⟩ := h; exact ⟨lo, hi, h.below hb⟩
  · trivial
def eoR (b0 B un uc dn dc : Nat) (ua da : Option Addr) (UU DD : Nat → List Int) (S : World → Prop) (l : Nat → Bool) (a : Act) (w : World) : Prop :=
  S w ∧ (l 2 = true → l 5 = true → NetJ B w (a.tmps.getD 72 undef) (a.tmps.getD 75 undef) un dn UU DD) ∧ (l 6 = true → a.tmps.getD 10 undef = a.tmps.getD 72 undef) ∧ (l 7 = true → a.tmps.getD 11 undef = a.tmps.getD 75 undef)

set_option maxHeartbeats 8000000 in
theorem eo_region {id : Nat} {ops : Array Oper} {Q : Exit → Act → World → Prop} {a0 : Act} {w0 : World} (b0 B un uc dn dc : Nat) (ua da : Option Addr) (UU DD : Nat → List Int) (S : World → Prop) (hlow : lowB ops = true) (hsz : ops.size = 8)
    (o0 : OpIn ops 0 (some 70) (.fieldAddr 26 (.tmp 2) 1) none []) (o1 : OpIn ops 1 (some 71) (.load 23 (.tmp 70)) none [0]) (o2 : OpIn ops 2 (some 72) (.call { callee := .value (.func 10), args := #[.tmp 71], argTypes := #[23] }) none [1]) (o3 : OpIn ops 3 (some 73) (.fieldAddr 26 (.tmp 2) 2) none []) (o4 : OpIn ops 4 (some 74) (.load 23 (.tmp 73)) none [3]) (o5 : OpIn ops 5 (some 75) (.call { callee := .value (.func 10), args := #[.tmp 74], argTypes := #[23] }) none [4]) (o6 : OpIn ops 6 (some 10) (.assign (.tmp 72)) none [2]) (o7 : OpIn ops 7 (some 11) (.assign (.tmp 75)) none [5])
    (hS : S w0.drew)
    (x0 : ∀ w, (Instr.fieldAt 26 (.pointer (some ⟨b0, 0, none⟩)) 1).run Try.prog w = .ok (.pointer (some ⟨b0, 1, none⟩)) w)
    (x1 : ∀ w, S w → (Instr.loadAt 23 (.pointer (some ⟨b0, 1, none⟩))).run Try.prog w = .ok (.slice ua un uc) w)
    (x2 : ∀ w, S w → Calls Try.prog 10 #[.slice ua un uc] w fun e w' => ∃ lo hi v, e = .returned v ∧ w.heap.size ≤ lo ∧ NetF B w' v un UU lo hi ∧ Below w.heap.size w w' ∧ S w')
    (x3 : ∀ w, (Instr.fieldAt 26 (.pointer (some ⟨b0, 0, none⟩)) 2).run Try.prog w = .ok (.pointer (some ⟨b0, 2, none⟩)) w)
    (x4 : ∀ w, S w → (Instr.loadAt 23 (.pointer (some ⟨b0, 2, none⟩))).run Try.prog w = .ok (.slice da dn dc) w)
    (x5 : ∀ w, S w → Calls Try.prog 10 #[.slice da dn dc] w fun e w' => ∃ lo hi v, e = .returned v ∧ w.heap.size ≤ lo ∧ NetF B w' v dn DD lo hi ∧ Below w.heap.size w w' ∧ S w')
    (u2 : a0.tmps.getD 2 undef = .pointer (some ⟨b0, 0, none⟩))
    (hs : 129 ≤ a0.tmps.size)
    (fin : ∀ a w, a.tmps.size = a0.tmps.size → a.defers = a0.defers → (∀ s, (∀ i, i < 8 → eoD i ≠ some s) → a.tmps.getD s undef = a0.tmps.getD s undef) → S w → NetJ B w (a.tmps.getD 10 undef) (a.tmps.getD 11 undef) un dn UU DD → Q .normal a w) : (Code.region id ops true).wp Try.prog Q a0 w0 := by
  have r10 : ∀ args w, (callFunc 10 args).run Try.prog w = .ok (.enter 10 args) w := enters_of Try.func10 (by kernel_rfl) rfl
  refine wp_region_inv2 (by kernel_rfl) hlow (Inv 8 eoD a0 (eoR b0 B un uc dn dc ua da UU DD S) (fun _ => eoF b0 B un uc dn dc ua da UU DD)) (Inv.start ⟨hS, fun h => (by cases h), fun h => (by cases h), fun h => (by cases h)⟩) ?_ ?_
  · intro l i o a w ho hl hcl hdep hI
    have hi : i < 8 := by rw [← hsz]; exact (Array.getElem?_eq_some_iff.1 ho).1
    have ev : ∀ (s : Nat), a.eval (.tmp s) = a.tmps.getD s undef := fun _ => rfl
    have evf : ∀ f, a.eval (.func f) = .func (.func f) #[] #[] := fun _ => rfl
    have evc : ∀ c : Value, a.eval (.const c) = c := fun _ => rfl
    have inj : ∀ d, eoD i = some d → ∀ j d', j < 8 → eoD j = some d' → j ≠ i → d' ≠ d := fun d hd j d' hj hd' hne e => hne (eoD_inj j hj i hi (by rw [hd', hd, e]) (by rw [hd']; simp))
    have kp : ∀ s, (∀ i, i < 8 → eoD i ≠ some s) → a.tmps.getD s undef = a0.tmps.getD s undef := hI.kept
    have hw : S w := hI.world.1
    have hJ := hI.world.2.1
    have hA := hI.world.2.2.1
    have hC := hI.world.2.2.2
    have oth : ∀ j, j ≠ i → (l j || j == i) = l j := fun j hj => by rw [show (j == i) = false by simp [hj], Bool.or_false]
    have off : ∀ j, j ≠ i → (l j || j == i) = true → l j = true := fun j hj h => by rw [oth j hj] at h; exact h
    have sz : ∀ d, d < 129 → d < a.tmps.size := fun d hd => by rw [hI.size]; omega
    have go : ∀ {d : Nat} {v : Value}, eoD i = some d → i ≠ 2 → i ≠ 5 → i ≠ 6 → i ≠ 7 → eoF b0 B un uc dn dc ua da UU DD i v w → Inv 8 eoD a0 (eoR b0 B un uc dn dc ua da UU DD S) (fun _ => eoF b0 B un uc dn dc ua da UU DD) (fun j => l j || j == i) (a.put (some d) v) w := by
      intro d v hD h2 h5 h6 h7 hF
      have hd := sz d (eoD_lt i hi d hD)
      have g72 : (a.put (some d) v).tmps.getD 72 undef = a.tmps.getD 72 undef := by rw [get_put a d v 72 hd, if_neg (fun e => inj d hD 2 72 (by decide) rfl (Ne.symm h2) e)]
      have g75 : (a.put (some d) v).tmps.getD 75 undef = a.tmps.getD 75 undef := by rw [get_put a d v 75 hd, if_neg (fun e => inj d hD 5 75 (by decide) rfl (Ne.symm h5) e)]
      have g10 : (a.put (some d) v).tmps.getD 10 undef = a.tmps.getD 10 undef := by rw [get_put a d v 10 hd, if_neg (fun e => inj d hD 6 10 (by decide) rfl (Ne.symm h6) e)]
      have g11 : (a.put (some d) v).tmps.getD 11 undef = a.tmps.getD 11 undef := by rw [get_put a d v 11 hd, if_neg (fun e => inj d hD 7 11 (by decide) rfl (Ne.symm h7) e)]
      refine hI.put hi hD (by rw [← hI.size]; exact hd) (inj d hD) ⟨hw, ?_, ?_, ?_⟩ hF (fun j u _ _ _ hf => hf)
      · intro q1 q2
        replace q1 := off 2 (Ne.symm h2) q1
        replace q2 := off 5 (Ne.symm h5) q2
        rw [g72, g75]
        exact hJ q1 q2
      · intro q1
        replace q1 := off 6 (Ne.symm h6) q1
        rw [g10, g72]
        exact hA q1
      · intro q1
        replace q1 := off 7 (Ne.symm h7) q1
        rw [g11, g75]
        exact hC q1
    rcases (show i = 0 ∨ i = 1 ∨ i = 2 ∨ i = 3 ∨ i = 4 ∨ i = 5 ∨ i = 6 ∨ i = 7 by omega) with rfl | rfl | rfl | rfl | rfl | rfl | rfl | rfl
    · obtain ⟨o', e1, e2, e3, e4, e5⟩ := o0
      obtain rfl := Option.some.inj (ho.symm.trans e1)
      have dp := dep_of' e5 hdep
      have U2 : a.tmps.getD 2 undef = .pointer (some ⟨b0, 0, none⟩) := (kp 2 (by decide)).trans u2
      exact wpOp_value (v := .pointer (some ⟨b0, 1, none⟩)) (w' := w) ho e4 (by simp [execOp, e3, ev, evc, U2, x0 w]) (by rw [e2]; exact go rfl (by decide) (by decide) (by decide) (by decide) rfl)
    · obtain ⟨o', e1, e2, e3, e4, e5⟩ := o1
      obtain rfl := Option.some.inj (ho.symm.trans e1)
      have dp := dep_of' e5 hdep
      have V0 : a.tmps.getD 70 undef = .pointer (some ⟨b0, 1, none⟩) := hI.val 0 70 (by decide) rfl (dp 0 (by decide))
      exact wpOp_value (v := .slice ua un uc) (w' := w) ho e4 (by simp [execOp, e3, ev, evc, V0, x1 w hw]) (by rw [e2]; exact go rfl (by decide) (by decide) (by decide) (by decide) rfl)
    · obtain ⟨o', e1, e2, e3, e4, e5⟩ := o2
      obtain rfl := Option.some.inj (ho.symm.trans e1)
      have dp := dep_of' e5 hdep
      have V1 : a.tmps.getD 71 undef = .slice ua un uc := hI.val 1 71 (by decide) rfl (dp 1 (by decide))
      refine wpOp_call (f := 10) (args := #[.slice ua un uc]) ho e4 (by simp [execOp, e3, resolve, invoke, Deferred.ofValue, r10, ev, evf, evc, V1]) ((x2 w hw).mono ?_)
      rintro e W' ⟨lo, hi', rv, rfl, hlo, hnf, hb6, hs6⟩
      refine ⟨rv, rfl, ?_⟩
      rw [e2]
      have nn : l 6 = false := by
        cases e : l 6 with
        | false => rfl
        | true =>
          exfalso
          have y := hcl.dep' o6 e 2 (by decide)
          rw [hl] at y
          cases y
      refine hI.put hi rfl (Nat.lt_of_lt_of_le (by decide) hs) (inj 72 rfl) ⟨hs6, ?_, ?_, ?_⟩ ⟨lo, hi', hnf⟩ (fun j u _ _ _ hf => eoF_below hf hb6)
      · intro _ q2
        replace q2 := off 5 (by decide) q2
        obtain ⟨lo', hi2, h5⟩ := hI.val 5 75 (by decide) rfl q2
        rw [get_put a 72 _ 72 (sz 72 (by decide)), get_put a 72 _ 75 (sz 72 (by decide)), if_pos rfl, if_neg (by decide)]
        refine ⟨lo, hi', lo', hi2, hnf, h5.below hb6, .inr ?_⟩
        obtain ⟨_, _, _, _, _, _, _, _, _, _, h7⟩ := h5
        omega
      · intro q1
        replace q1 := off 6 (by decide) q1
        rw [nn] at q1
        cases q1
      · intro q1
        replace q1 := off 7 (by decide) q1
        rw [get_put a 72 _ 11 (sz 72 (by decide)), get_put a 72 _ 75 (sz 72 (by decide)), if_neg (by decide), if_neg (by decide)]
        exact hC q1
    · obtain ⟨o', e1, e2, e3, e4, e5⟩ := o3
      obtain rfl := Option.some.inj (ho.symm.trans e1)
      have dp := dep_of' e5 hdep
      have U2 : a.tmps.getD 2 undef = .pointer (some ⟨b0, 0, none⟩) := (kp 2 (by decide)).trans u2
      exact wpOp_value (v := .pointer (some ⟨b0, 2, none⟩)) (w' := w) ho e4 (by simp [execOp, e3, ev, evc, U2, x3 w]) (by rw [e2]; exact go rfl (by decide) (by decide) (by decide) (by decide) rfl)
    · obtain ⟨o', e1, e2, e3, e4, e5⟩ := o4
      obtain rfl := Option.some.inj (ho.symm.trans e1)
      have dp := dep_of' e5 hdep
      have V3 : a.tmps.getD 73 undef = .pointer (some ⟨b0, 2, none⟩) := hI.val 3 73 (by decide) rfl (dp 3 (by decide))
      exact wpOp_value (v := .slice da dn dc) (w' := w) ho e4 (by simp [execOp, e3, ev, evc, V3, x4 w hw]) (by rw [e2]; exact go rfl (by decide) (by decide) (by decide) (by decide) rfl)
    · obtain ⟨o', e1, e2, e3, e4, e5⟩ := o5
      obtain rfl := Option.some.inj (ho.symm.trans e1)
      have dp := dep_of' e5 hdep
      have V4 : a.tmps.getD 74 undef = .slice da dn dc := hI.val 4 74 (by decide) rfl (dp 4 (by decide))
      refine wpOp_call (f := 10) (args := #[.slice da dn dc]) ho e4 (by simp [execOp, e3, resolve, invoke, Deferred.ofValue, r10, ev, evf, evc, V4]) ((x5 w hw).mono ?_)
      rintro e W' ⟨lo, hi', rv, rfl, hlo, hnf, hb6, hs6⟩
      refine ⟨rv, rfl, ?_⟩
      rw [e2]
      have nn : l 7 = false := by
        cases e : l 7 with
        | false => rfl
        | true =>
          exfalso
          have y := hcl.dep' o7 e 5 (by decide)
          rw [hl] at y
          cases y
      refine hI.put hi rfl (Nat.lt_of_lt_of_le (by decide) hs) (inj 75 rfl) ⟨hs6, ?_, ?_, ?_⟩ ⟨lo, hi', hnf⟩ (fun j u _ _ _ hf => eoF_below hf hb6)
      · intro q2 _
        replace q2 := off 2 (by decide) q2
        obtain ⟨lo', hi2, h5⟩ := hI.val 2 72 (by decide) rfl q2
        rw [get_put a 75 _ 72 (sz 75 (by decide)), get_put a 75 _ 75 (sz 75 (by decide)), if_pos rfl, if_neg (by decide)]
        refine ⟨lo', hi2, lo, hi', h5.below hb6, hnf, .inl ?_⟩
        obtain ⟨_, _, _, _, _, _, _, _, _, _, h7⟩ := h5
        omega
      · intro q1
        replace q1 := off 6 (by decide) q1
        rw [get_put a 75 _ 10 (sz 75 (by decide)), get_put a 75 _ 72 (sz 75 (by decide)), if_neg (by decide), if_neg (by decide)]
        exact hA q1
      · intro q1
        replace q1 := off 7 (by decide) q1
        rw [nn] at q1
        cases q1
    · obtain ⟨o', e1, e2, e3, e4, e5⟩ := o6
      obtain rfl := Option.some.inj (ho.symm.trans e1)
      have dp := dep_of' e5 hdep
      have hv : (execOp a.eval o).run Try.prog w = .ok (.value (a.tmps.getD 72 undef)) w := by
        obtain ⟨p1, ep1⟩ : ∃ p, a.tmps.getD 72 undef = p := ⟨_, rfl⟩
        simp [execOp, e3, ev, ep1]
      refine wpOp_value ho e4 hv ?_
      rw [e2]
      refine hI.put hi rfl (Nat.lt_of_lt_of_le (by decide) hs) (inj 10 rfl) ⟨hw, ?_, ?_, ?_⟩ trivial (fun j u _ _ _ hf => hf)
      · intro q1 q2
        replace q1 := off 2 (by decide) q1
        replace q2 := off 5 (by decide) q2
        rw [get_put a 10 _ 72 (sz 10 (by decide)), get_put a 10 _ 75 (sz 10 (by decide)), if_neg (by decide), if_neg (by decide)]
        exact hJ q1 q2
      · intro q1
        rw [get_put a 10 _ 10 (sz 10 (by decide)), get_put a 10 _ 72 (sz 10 (by decide)), if_pos rfl, if_neg (by decide)]
      · intro q1
        replace q1 := off 7 (by decide) q1
        rw [get_put a 10 _ 11 (sz 10 (by decide)), get_put a 10 _ 75 (sz 10 (by decide)), if_neg (by decide), if_neg (by decide)]
        exact hC q1
    · obtain ⟨o', e1, e2, e3, e4, e5⟩ := o7
      obtain rfl := Option.some.inj (ho.symm.trans e1)
      have dp := dep_of' e5 hdep
      have hv : (execOp a.eval o).run Try.prog w = .ok (.value (a.tmps.getD 75 undef)) w := by
        obtain ⟨p1, ep1⟩ : ∃ p, a.tmps.getD 75 undef = p := ⟨_, rfl⟩
        simp [execOp, e3, ev, ep1]
      refine wpOp_value ho e4 hv ?_
      rw [e2]
      refine hI.put hi rfl (Nat.lt_of_lt_of_le (by decide) hs) (inj 11 rfl) ⟨hw, ?_, ?_, ?_⟩ trivial (fun j u _ _ _ hf => hf)
      · intro q1 q2
        replace q1 := off 2 (by decide) q1
        replace q2 := off 5 (by decide) q2
        rw [get_put a 11 _ 72 (sz 11 (by decide)), get_put a 11 _ 75 (sz 11 (by decide)), if_neg (by decide), if_neg (by decide)]
        exact hJ q1 q2
      · intro q1
        replace q1 := off 6 (by decide) q1
        rw [get_put a 11 _ 10 (sz 11 (by decide)), get_put a 11 _ 72 (sz 11 (by decide)), if_neg (by decide), if_neg (by decide)]
        exact hA q1
      · intro q1
        rw [get_put a 11 _ 11 (sz 11 (by decide)), get_put a 11 _ 75 (sz 11 (by decide)), if_pos rfl, if_neg (by decide)]
  · intro l a w hall hI
    have all : ∀ j, j < 8 → l j = true := fun j hj => hall j (by rw [hsz]; exact hj)
    refine fin a w hI.size hI.defers hI.kept hI.world.1 ?_
    rw [hI.world.2.2.1 (all 6 (by decide)), hI.world.2.2.2 (all 7 (by decide))]
    exact hI.world.2.1 (all 2 (by decide)) (all 5 (by decide))

end Go.Proofs.Ytlpmndlefbghoaa
