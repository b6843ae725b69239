/- Two slices of networks of the call's own, one place of both written. -/
import Derived.Test.YtlpmndlefbghoaaRows
import Derived.Test.YtlpmndlefbghoaaView
import Derived.Test.YtlpmndlefbghoaaOwn
import Derived.Test.YtlpmndlefbghoaaWhere
import Derived.Test.YtlpmndlefbghoaaSoft
import Derived.Test.YtlpmndlefbghoaaGrids
import Derived.Test.YtlpmndlefbghoaaXpGridB
import Derived.WalkKit
import Derived.ProofKit
import Derived.OpenShut
import Derived.Below
import Derived.WalkLawsBesides
import Derived.Deep.QuietTactic
import Derived.BigQuiet
namespace Go.Proofs.Ytlpmndlefbghoaa
open Go.ChangeShapes Go.WideShapes Go.ChangeAt Go.RowKit
set_option linter.unusedVariables false
set_option linter.unusedSimpArgs false

def upd {α : Type} (f : Nat → α) (i : Nat) (v : α) : Nat → α := fun r => if r = i then v else f r
theorem upd_at {α : Type} (f : Nat → α) (i : Nat) (v : α) : upd f i v i = v := if_pos rfl
theorem upd_off {α : Type} (f : Nat → α) (i : Nat) (v : α) {r : Nat} (h : r ≠ i) : upd f i v r = f r := if_neg h

theorem Reads.setApart {k : IntKind} {W : World} {a : Option Addr} {n : Nat} {zs : List Int} {p : Addr} (h : Reads k W a n zs) (hp : 0 < n → ∀ x, a = some x → x.block ≠ p.block) (v : Value) : Reads k (W.setCell p v) a n zs :=
  ⟨h.len, h.max, h.wf, h.some_, fun x hx i hi => by
    rw [World.cell?_setCell_other _ _ _ _ (fun e => hp (by omega) x hx (by rw [e]; unfold Addr.add; split <;> rfl))]
    exact h.cell x hx i hi⟩

theorem own_elsewhere {w : World} {B : Nat} {e : TypeId} {v : Value} {n : Nat} {xs : List Value} (h : w.ownsRow B e 1 v n xs) {p : Addr} (hp : ∀ g, v.ownBlock = some g → g ≠ p.block) (u : Value) : (w.setCell p u).ownsRow B e 1 v n xs :=
  h.kept (row := some p.block) ⟨rfl, rfl, rfl, by simp [World.setCell], fun k hk hne => Below.heap_setCell _ _ _ _ (fun e => hne (by rw [e]))⟩ (by
    cases hv : v.ownBlock with
    | none => exact .inl rfl
    | some g => exact .inr (fun e => hp g hv (Option.some.inj e)))

theorem heads_set (A : Nat → Option Addr) (C : Nat → Nat) (R : Nat → List Int) (n i : Nat) (a : Option Addr) (c : Nat) (z : List Int) (hi : i < n) : (heads A C R n).set i (.slice a z.length c) = heads (upd A i a) (upd C i c) (upd R i z) n := by
  refine List.ext_getElem (by simp [heads]) fun j h1 h2 => ?_
  have hj : j < n := by simpa [heads] using h2
  rw [List.getElem_set]
  by_cases e : i = j
  · subst e
    simp [heads, upd]
  · rw [if_neg e]
    simp [heads, upd, Ne.symm e]

theorem OwnGridB.set {B : Nat} {w : World} {g c n : Nat} {A : Nat → Option Addr} {C : Nat → Nat} {R : Nat → List Int} (h : OwnGridB B w (.slice (some ⟨g, 0, none⟩) n c) n A C R) {i : Nat} (hi : i < n) {a : Option Addr} {ca : Nat} {z : List Int} (hr : Reads .i8 w a z.length z) (ha : 0 < z.length → ∀ x, a = some x → x.block ≠ g) :
    OwnGridB B (w.setCell ⟨g, i, none⟩ (.slice a z.length ca)) (.slice (some ⟨g, 0, none⟩) n c) n (upd A i a) (upd C i ca) (upd R i z) := by
  have ap := h.apart
  refine ⟨?_, fun r hr' => ?_, fun r hr' hl x hx g' hg' => ?_⟩
  · rw [← heads_set _ _ _ _ _ _ _ _ hi]
    exact (h.own.stored i _).1
  · by_cases e : r = i
    · subst e
      rw [upd_at, upd_at]
      exact hr.setApart (fun h0 x hx => ha h0 x hx) _
    · rw [upd_off _ _ _ e, upd_off _ _ _ e]
      exact (h.row r hr').setApart (fun h0 x hx => ap r hr' h0 x hx g rfl) _
  · obtain rfl : g = g' := by simpa [Value.ownBlock] using hg'
    by_cases e : r = i
    · subst e
      rw [upd_at] at hx hl
      exact ha hl x hx
    · rw [upd_off _ _ _ e] at hx hl
      exact ap r hr' hl x hx g rfl

theorem OwnGridB.elsewhere {B : Nat} {w : World} {g c n : Nat} {A : Nat → Option Addr} {C : Nat → Nat} {R : Nat → List Int} (h : OwnGridB B w (.slice (some ⟨g, 0, none⟩) n c) n A C R) {p : Addr} (hg : g ≠ p.block) (hr : ∀ r, r < n → 0 < (R r).length → ∀ x, A r = some x → x.block ≠ p.block) (u : Value) :
    OwnGridB B (w.setCell p u) (.slice (some ⟨g, 0, none⟩) n c) n A C R :=
  ⟨own_elsewhere h.own (fun g' hg' => by
    obtain rfl : g = g' := by simpa [Value.ownBlock] using hg'
    exact hg) u, fun r hr' => (h.row r hr').setApart (hr r hr') u, h.apart⟩

/-- what is asked of the rows besides; they lie in no block g -/
structure Side (n : Nat) (A : Nat → Option Addr) (C : Nat → Nat) (R : Nat → List Int) (g : Nat) : Prop where
  cap : ∀ r, r < n → (R r).length ≤ C r
  nil_ : ∀ r, r < n → A r = none → C r = 0
  bnd : ∀ r, r < n → (R r).length * 8 ≤ 140737488355328
  off : ∀ r, r < n → 0 < (R r).length → ∀ x, A r = some x → x.block ≠ g

theorem Side.set {n : Nat} {A : Nat → Option Addr} {C : Nat → Nat} {R : Nat → List Int} {g : Nat} (h : Side n A C R g) (i : Nat) {a : Option Addr} {ca : Nat} {z : List Int} (h1 : z.length ≤ ca) (h2 : a = none → ca = 0) (h3 : z.length * 8 ≤ 140737488355328) (h4 : 0 < z.length → ∀ x, a = some x → x.block ≠ g) : Side n (upd A i a) (upd C i ca) (upd R i z) g := by
  refine ⟨fun r hr => ?_, fun r hr => ?_, fun r hr => ?_, fun r hr => ?_⟩ <;> by_cases e : r = i
  · subst e; rw [upd_at, upd_at]; exact h1
  · rw [upd_off _ _ _ e, upd_off _ _ _ e]; exact h.cap r hr
  · subst e; rw [upd_at, upd_at]; exact h2
  · rw [upd_off _ _ _ e, upd_off _ _ _ e]; exact h.nil_ r hr
  · subst e; rw [upd_at]; exact h3
  · rw [upd_off _ _ _ e]; exact h.bnd r hr
  · subst e; rw [upd_at, upd_at]; exact h4
  · rw [upd_off _ _ _ e, upd_off _ _ _ e]; exact h.off r hr

/-- two slices of networks of the call's own, apart -/
structure Two (B : Nat) (w : World) (n gu cu gd cd : Nat) (A : Nat → Option Addr) (C : Nat → Nat) (R : Nat → List Int) (A' : Nat → Option Addr) (C' : Nat → Nat) (R' : Nat → List Int) : Prop where
  u : OwnGridB B w (.slice (some ⟨gu, 0, none⟩) n cu) n A C R
  d : OwnGridB B w (.slice (some ⟨gd, 0, none⟩) n cd) n A' C' R'
  su : Side n A C R gd
  sd : Side n A' C' R' gu
  ne : gu ≠ gd

theorem Two.set {B : Nat} {w : World} {n gu cu gd cd : Nat} {A : Nat → Option Addr} {C : Nat → Nat} {R : Nat → List Int} {A' : Nat → Option Addr} {C' : Nat → Nat} {R' : Nat → List Int} (h : Two B w n gu cu gd cd A C R A' C' R') {i : Nat} (hi : i < n) {a : Option Addr} {ca : Nat} {z : List Int} (hr : Reads .i8 w a z.length z) (h1 : z.length ≤ ca) (h2 : a = none → ca = 0) (h3 : z.length * 8 ≤ 140737488355328)
    (h4 : 0 < z.length → ∀ x, a = some x → x.block ≠ gu) (h5 : 0 < z.length → ∀ x, a = some x → x.block ≠ gd) :
    Two B ((w.setCell ⟨gu, i, none⟩ (.slice a z.length ca)).setCell ⟨gd, i, none⟩ (.slice a z.length ca)) n gu cu gd cd (upd A i a) (upd C i ca) (upd R i z) (upd A' i a) (upd C' i ca) (upd R' i z) := by
  have su' := h.su.set i h1 h2 h3 h5
  have sd' := h.sd.set i h1 h2 h3 h4
  refine ⟨?_, ?_, su', sd', h.ne⟩
  · exact (h.u.set hi hr h4).elsewhere (p := ⟨gd, i, none⟩) h.ne su'.off _
  · exact (h.d.elsewhere (p := ⟨gu, i, none⟩) (Ne.symm h.ne) h.sd.off _).set hi (hr.setApart (p := ⟨gu, i, none⟩) h4 _) h5

theorem Two.nets {B : Nat} {w : World} {n gu cu gd cd : Nat} {A : Nat → Option Addr} {C : Nat → Nat} {R : Nat → List Int} {A' : Nat → Option Addr} {C' : Nat → Nat} {R' : Nat → List Int} (h : Two B w n gu cu gd cd A C R A' C' R') : Nets w (some ⟨gu, 0, none⟩) n A C R ∧ Nets w (some ⟨gd, 0, none⟩) n A' C' R' := by
  obtain ⟨a1, c1, e1, g1⟩ := h.u.grid
  obtain ⟨a2, c2, e2, g2⟩ := h.d.grid
  simp only [Value.slice.injEq] at e1 e2
  obtain ⟨rfl, -, -⟩ := e1
  obtain ⟨rfl, -, -⟩ := e2
  exact ⟨⟨g1, h.su.cap, h.su.nil_, h.su.bnd⟩, ⟨g2, h.sd.cap, h.sd.nil_, h.sd.bnd⟩⟩

end Go.Proofs.Ytlpmndlefbghoaa
