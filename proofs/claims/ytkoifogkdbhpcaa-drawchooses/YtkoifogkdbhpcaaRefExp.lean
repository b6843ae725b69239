/- What the document's answers of layer 3 (the power, and the curves over it) give back: contracts of the calls. -/
import Derived.Test.YtkoifogkdbhpcaaRows
import Derived.Test.YtkoifogkdbhpcaaSat
import Derived.Test.YtkoifogkdbhpcaaView
import Derived.Test.YtkoifogkdbhpcaaTabs
import Derived.Test.YtkoifogkdbhpcaaArith
import Derived.Test.YtkoifogkdbhpcaaSatRef
import Derived.Test.YtkoifogkdbhpcaaExp
import Derived.WalkKit
import Derived.ProofKit
import Derived.OpenShut
import Derived.WalkLawsBesides
import Derived.Below
import Derived.Deep.QuietTactic
import Derived.BigQuiet
namespace Go.Proofs.Ytkoifogkdbhpcaa
set_option maxRecDepth 20000

open Go.ChangeShapes Go.WideShapes Go.ChangeAt Go.RowKit

set_option linter.unusedVariables false

theorem mulZ_min (x : Int) : mulZ (min 0 x) 94548 = -tZ x := by
  have e : clampZ (min 0 x) = clampZ (min (clampZ x) 0) := by
    unfold clampZ
    repeat' split
    all_goals omega
  unfold tZ mulZ
  rw [e]; omega

theorem refExp_neg (x : Int) (wx : (Lit.int .i64 x).wf = true) (h : x < 0) (w : World) :
    Calls Try.prog 40 #[.int .i64 x] w fun e w' => e = .returned (.int .i64 (expZ x)) ∧ Below w.heap.size w w' := by
  have tb := tZ_bounds x
  have m := mulZ_min x
  unfold expZ
  obtain ⟨t, et⟩ : ∃ t, tZ x = t := ⟨_, rfl⟩
  rw [et] at tb m ⊢
  clear et
  obtain ⟨t0, t1⟩ := tb
  have f0 : 0 ≤ t % 65536 := by omega
  have f1 : t % 65536 < 65536 := by omega
  have i0 : 0 ≤ t % 65536 / 4096 := by omega
  have i1 : t % 65536 / 4096 < 17 := by omega
  have i2 : t % 65536 / 4096 + 1 < 17 := by omega
  have s := powZ_steps (t % 65536 / 4096) i0 (by omega)
  have mm := prod_bounds (powZ (t % 65536 / 4096) - powZ (t % 65536 / 4096 + 1)) (t % 65536 % 4096) s.1 s.2.1 (by omega) (by omega)
  have fb := betweenZ_bounds (t % 65536) (by omega) (by omega)
  unfold betweenZ at fb ⊢
  obtain ⟨p, ep⟩ : ∃ p, powZ (t % 65536 / 4096) = p := ⟨_, rfl⟩
  obtain ⟨q, eq⟩ : ∃ q, powZ (t % 65536 / 4096 + 1) = q := ⟨_, rfl⟩
  have ee : t % 65536 % 4096 = t % 4096 := by omega
  rw [ep, eq] at s mm fb ⊢
  rw [ee] at mm fb ⊢
  clear ee
  have EP : Hid (powZ (t % 65536 / 4096) = p) := ep
  have EQ : Hid (powZ (t % 65536 / 4096 + 1) = q) := eq
  clear ep eq
  obtain ⟨s1, s2, s3, s4⟩ := s
  obtain ⟨m1, m2⟩ := mm
  obtain ⟨fb1, fb2⟩ := fb
  have e : min 0 x = x := by omega
  rw [e] at m; clear e
  by_cases k : 16 < t / 65536
  · rw [if_pos k]
    go_enter Try.func40, Try.ntmps40
    go_wp2_with (go_at_call 51; refine (refMul_call _ _ (by first | assumption | decide) (by decide) _).mono ?_; rintro e w' ⟨rfl, rfl⟩)
    generalize hW : w.alloc (Obj.cells _ _) = W1
    have hW' : w.alloc (Obj.cells (tabP.map (Value.int .i64)).toArray 2) = W1 := hW
    have hg : Below w.heap.size w W1 := by rw [← hW]; exact below_new (Below.refl _ w) _
    have c1 : W1.cell? ⟨w.heap.size, (t % 65536 / 4096).toNat, none⟩ = some (.int .i64 p) := by
      rw [← hW', World.cell?_alloc_new, ← EP.out]; exact tab_cell _ _ (by show _ < 17; omega)
    have c2 : W1.cell? ⟨w.heap.size, (t % 65536 / 4096 + 1).toNat, none⟩ = some (.int .i64 q) := by
      rw [← hW', World.cell?_alloc_new, ← EQ.out]; exact tab_cell _ _ (by show _ < 17; omega)
    clear hW hW'
    go_quiet (fail)
    go_wp2
    go_ret
    exact ⟨rfl, below_drew hg ⟨_, rfl⟩⟩
  · rw [if_neg k]
    go_enter Try.func40, Try.ntmps40
    go_wp2_with (go_at_call 51; refine (refMul_call _ _ (by first | assumption | decide) (by decide) _).mono ?_; rintro e w' ⟨rfl, rfl⟩)
    generalize hW : w.alloc (Obj.cells _ _) = W1
    have hW' : w.alloc (Obj.cells (tabP.map (Value.int .i64)).toArray 2) = W1 := hW
    have hg : Below w.heap.size w W1 := by rw [← hW]; exact below_new (Below.refl _ w) _
    have c1 : W1.cell? ⟨w.heap.size, (t % 65536 / 4096).toNat, none⟩ = some (.int .i64 p) := by
      rw [← hW', World.cell?_alloc_new, ← EP.out]; exact tab_cell _ _ (by show _ < 17; omega)
    have c2 : W1.cell? ⟨w.heap.size, (t % 65536 / 4096 + 1).toNat, none⟩ = some (.int .i64 q) := by
      rw [← hW', World.cell?_alloc_new, ← EQ.out]; exact tab_cell _ _ (by show _ < 17; omega)
    clear hW hW'
    go_quiet (fail)
    go_wp2
    go_ret
    exact ⟨rfl, below_drew hg ⟨_, rfl⟩⟩

theorem refExp_zero (x : Int) (wx : (Lit.int .i64 x).wf = true) (h : x = 0) (w : World) :
    Calls Try.prog 40 #[.int .i64 x] w fun e w' => e = .returned (.int .i64 (expZ x)) ∧ Below w.heap.size w w' := by
  have tb := tZ_bounds x
  have m := mulZ_min x
  unfold expZ
  obtain ⟨t, et⟩ : ∃ t, tZ x = t := ⟨_, rfl⟩
  rw [et] at tb m ⊢
  clear et
  obtain ⟨t0, t1⟩ := tb
  have f0 : 0 ≤ t % 65536 := by omega
  have f1 : t % 65536 < 65536 := by omega
  have i0 : 0 ≤ t % 65536 / 4096 := by omega
  have i1 : t % 65536 / 4096 < 17 := by omega
  have i2 : t % 65536 / 4096 + 1 < 17 := by omega
  have s := powZ_steps (t % 65536 / 4096) i0 (by omega)
  have mm := prod_bounds (powZ (t % 65536 / 4096) - powZ (t % 65536 / 4096 + 1)) (t % 65536 % 4096) s.1 s.2.1 (by omega) (by omega)
  have fb := betweenZ_bounds (t % 65536) (by omega) (by omega)
  unfold betweenZ at fb ⊢
  obtain ⟨p, ep⟩ : ∃ p, powZ (t % 65536 / 4096) = p := ⟨_, rfl⟩
  obtain ⟨q, eq⟩ : ∃ q, powZ (t % 65536 / 4096 + 1) = q := ⟨_, rfl⟩
  have ee : t % 65536 % 4096 = t % 4096 := by omega
  rw [ep, eq] at s mm fb ⊢
  rw [ee] at mm fb ⊢
  clear ee
  have EP : Hid (powZ (t % 65536 / 4096) = p) := ep
  have EQ : Hid (powZ (t % 65536 / 4096 + 1) = q) := eq
  clear ep eq
  obtain ⟨s1, s2, s3, s4⟩ := s
  obtain ⟨m1, m2⟩ := mm
  obtain ⟨fb1, fb2⟩ := fb
  have e : min 0 x = 0 := by omega
  rw [e] at m; clear e; subst h
  by_cases k : 16 < t / 65536
  · rw [if_pos k]
    go_enter Try.func40, Try.ntmps40
    go_wp2_with (go_at_call 51; refine (refMul_call _ _ (by first | assumption | decide) (by decide) _).mono ?_; rintro e w' ⟨rfl, rfl⟩)
    generalize hW : w.alloc (Obj.cells _ _) = W1
    have hW' : w.alloc (Obj.cells (tabP.map (Value.int .i64)).toArray 2) = W1 := hW
    have hg : Below w.heap.size w W1 := by rw [← hW]; exact below_new (Below.refl _ w) _
    have c1 : W1.cell? ⟨w.heap.size, (t % 65536 / 4096).toNat, none⟩ = some (.int .i64 p) := by
      rw [← hW', World.cell?_alloc_new, ← EP.out]; exact tab_cell _ _ (by show _ < 17; omega)
    have c2 : W1.cell? ⟨w.heap.size, (t % 65536 / 4096 + 1).toNat, none⟩ = some (.int .i64 q) := by
      rw [← hW', World.cell?_alloc_new, ← EQ.out]; exact tab_cell _ _ (by show _ < 17; omega)
    clear hW hW'
    go_quiet (fail)
    go_wp2
    go_ret
    exact ⟨rfl, below_drew hg ⟨_, rfl⟩⟩
  · rw [if_neg k]
    go_enter Try.func40, Try.ntmps40
    go_wp2_with (go_at_call 51; refine (refMul_call _ _ (by first | assumption | decide) (by decide) _).mono ?_; rintro e w' ⟨rfl, rfl⟩)
    generalize hW : w.alloc (Obj.cells _ _) = W1
    have hW' : w.alloc (Obj.cells (tabP.map (Value.int .i64)).toArray 2) = W1 := hW
    have hg : Below w.heap.size w W1 := by rw [← hW]; exact below_new (Below.refl _ w) _
    have c1 : W1.cell? ⟨w.heap.size, (t % 65536 / 4096).toNat, none⟩ = some (.int .i64 p) := by
      rw [← hW', World.cell?_alloc_new, ← EP.out]; exact tab_cell _ _ (by show _ < 17; omega)
    have c2 : W1.cell? ⟨w.heap.size, (t % 65536 / 4096 + 1).toNat, none⟩ = some (.int .i64 q) := by
      rw [← hW', World.cell?_alloc_new, ← EQ.out]; exact tab_cell _ _ (by show _ < 17; omega)
    clear hW hW'
    go_quiet (fail)
    go_wp2
    go_ret
    exact ⟨rfl, below_drew hg ⟨_, rfl⟩⟩

theorem refExp_pos (x : Int) (wx : (Lit.int .i64 x).wf = true) (h : 0 < x) (w : World) :
    Calls Try.prog 40 #[.int .i64 x] w fun e w' => e = .returned (.int .i64 (expZ x)) ∧ Below w.heap.size w w' := by
  have tb := tZ_bounds x
  have m := mulZ_min x
  unfold expZ
  obtain ⟨t, et⟩ : ∃ t, tZ x = t := ⟨_, rfl⟩
  rw [et] at tb m ⊢
  clear et
  obtain ⟨t0, t1⟩ := tb
  have f0 : 0 ≤ t % 65536 := by omega
  have f1 : t % 65536 < 65536 := by omega
  have i0 : 0 ≤ t % 65536 / 4096 := by omega
  have i1 : t % 65536 / 4096 < 17 := by omega
  have i2 : t % 65536 / 4096 + 1 < 17 := by omega
  have s := powZ_steps (t % 65536 / 4096) i0 (by omega)
  have mm := prod_bounds (powZ (t % 65536 / 4096) - powZ (t % 65536 / 4096 + 1)) (t % 65536 % 4096) s.1 s.2.1 (by omega) (by omega)
  have fb := betweenZ_bounds (t % 65536) (by omega) (by omega)
  unfold betweenZ at fb ⊢
  obtain ⟨p, ep⟩ : ∃ p, powZ (t % 65536 / 4096) = p := ⟨_, rfl⟩
  obtain ⟨q, eq⟩ : ∃ q, powZ (t % 65536 / 4096 + 1) = q := ⟨_, rfl⟩
  have ee : t % 65536 % 4096 = t % 4096 := by omega
  rw [ep, eq] at s mm fb ⊢
  rw [ee] at mm fb ⊢
  clear ee
  have EP : Hid (powZ (t % 65536 / 4096) = p) := ep
  have EQ : Hid (powZ (t % 65536 / 4096 + 1) = q) := eq
  clear ep eq
  obtain ⟨s1, s2, s3, s4⟩ := s
  obtain ⟨m1, m2⟩ := mm
  obtain ⟨fb1, fb2⟩ := fb
  have e : min 0 x = 0 := by omega
  rw [e] at m; clear e
  by_cases k : 16 < t / 65536
  · rw [if_pos k]
    go_enter Try.func40, Try.ntmps40
    go_wp2_with (go_at_call 51; refine (refMul_call _ _ (by first | assumption | decide) (by decide) _).mono ?_; rintro e w' ⟨rfl, rfl⟩)
    generalize hW : w.alloc (Obj.cells _ _) = W1
    have hW' : w.alloc (Obj.cells (tabP.map (Value.int .i64)).toArray 2) = W1 := hW
    have hg : Below w.heap.size w W1 := by rw [← hW]; exact below_new (Below.refl _ w) _
    have c1 : W1.cell? ⟨w.heap.size, (t % 65536 / 4096).toNat, none⟩ = some (.int .i64 p) := by
      rw [← hW', World.cell?_alloc_new, ← EP.out]; exact tab_cell _ _ (by show _ < 17; omega)
    have c2 : W1.cell? ⟨w.heap.size, (t % 65536 / 4096 + 1).toNat, none⟩ = some (.int .i64 q) := by
      rw [← hW', World.cell?_alloc_new, ← EQ.out]; exact tab_cell _ _ (by show _ < 17; omega)
    clear hW hW'
    go_quiet (fail)
    go_wp2
    go_ret
    exact ⟨rfl, below_drew hg ⟨_, rfl⟩⟩
  · rw [if_neg k]
    go_enter Try.func40, Try.ntmps40
    go_wp2_with (go_at_call 51; refine (refMul_call _ _ (by first | assumption | decide) (by decide) _).mono ?_; rintro e w' ⟨rfl, rfl⟩)
    generalize hW : w.alloc (Obj.cells _ _) = W1
    have hW' : w.alloc (Obj.cells (tabP.map (Value.int .i64)).toArray 2) = W1 := hW
    have hg : Below w.heap.size w W1 := by rw [← hW]; exact below_new (Below.refl _ w) _
    have c1 : W1.cell? ⟨w.heap.size, (t % 65536 / 4096).toNat, none⟩ = some (.int .i64 p) := by
      rw [← hW', World.cell?_alloc_new, ← EP.out]; exact tab_cell _ _ (by show _ < 17; omega)
    have c2 : W1.cell? ⟨w.heap.size, (t % 65536 / 4096 + 1).toNat, none⟩ = some (.int .i64 q) := by
      rw [← hW', World.cell?_alloc_new, ← EQ.out]; exact tab_cell _ _ (by show _ < 17; omega)
    clear hW hW'
    go_quiet (fail)
    go_wp2
    go_ret
    exact ⟨rfl, below_drew hg ⟨_, rfl⟩⟩

theorem refExp_call (x : Int) (wx : (Lit.int .i64 x).wf = true) (w : World) :
    Calls Try.prog 40 #[.int .i64 x] w fun e w' => e = .returned (.int .i64 (expZ x)) ∧ Below w.heap.size w w' := by
  rcases Int.lt_trichotomy x 0 with h | h | h
  · exact refExp_neg x wx h w
  · exact refExp_zero x wx h w
  · exact refExp_pos x wx h w

end Go.Proofs.Ytkoifogkdbhpcaa
