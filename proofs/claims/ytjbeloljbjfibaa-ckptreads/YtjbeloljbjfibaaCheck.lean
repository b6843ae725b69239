/- Check: framed, and the closure that holds each list's length against what it should be. -/
import Derived.Test.YtjbeloljbjfibaaRows
import Derived.Test.YtjbeloljbjfibaaLayer8
import Derived.Test.YtjbeloljbjfibaaConf
import Derived.Test.YtjbeloljbjfibaaBlank
import Derived.Test.YtjbeloljbjfibaaCfgRef
import Derived.Test.YtjbeloljbjfibaaSize
import Derived.Test.YtjbeloljbjfibaaSizes
import Derived.Test.YtjbeloljbjfibaaSteps
import Derived.Test.YtjbeloljbjfibaaClo54
import Derived.Test.YtjbeloljbjfibaaFill
import Derived.Test.YtjbeloljbjfibaaMods
import Derived.Test.YtjbeloljbjfibaaV44
import Derived.Test.YtjbeloljbjfibaaFills
import Derived.Test.YtjbeloljbjfibaaShape
import Derived.WalkKit
import Derived.ProofKit
import Derived.OpenShut
import Derived.Below
import Derived.WalkLawsBesides
import Derived.Deep.QuietTactic
import Derived.BigQuiet
import Derived.Deep.RegionWith
import Derived.Deep.RegionHeld3
import Derived.Deep.OwnRows
import Derived.Lib.QuietBelow
namespace Go.Proofs.Ytjbeloljbjfibaa
open Go.ChangeShapes Go.WideShapes Go.ChangeAt Go.RowKit Go.Sort
set_option linter.unusedVariables false


theorem closure44 (a : Addr) (vb : Nat) (A : Option Addr) (n c : Nat) (k e : Int) (W : World) (ha : W.cell? a = some (.slice A n c)) (q : Blk 31 W vb #[.int .i64 e]) :
    Calls Try.prog 44 #[.pointer (some a), .int .i64 k, .pointer (some ⟨vb, 0, none⟩)] W fun r W' => r = .returned (.tuple #[]) ∧ Blk 31 W' vb #[.int .i64 (if (n : Int) = k then e else 21)] ∧ Only vb W W' := by
  have c0 : W.cell? ⟨vb, 0, none⟩ = some (.int .i64 e) := q.cell 0 rfl
  have f0 := q.open_ 0
  have HQ := hidden_ q
  clear q
  by_cases h : (n : Int) = k
  · rw [if_pos h]
    have h' : ((n : Int) == k) = true := by simp [h]
    clear h
    go_enter Try.func44, Try.ntmps44
    go_wp2
    go_end0
    exact ⟨rfl, HQ.out, Only.refl _ _⟩
  · rw [if_neg h]
    have h' : ((n : Int) == k) = false := by simp [h]
    clear h
    go_enter Try.func44, Try.ntmps44
    go_wp2
    go_end0
    exact ⟨rfl, HQ.out.set 0 _, Only.set _ _ _ _⟩

/-- has a model as many layers, and these as many Ups and Downs, as its configuration says? -/
def framedB (l x : Int) (m : ModV) : Bool := decide ((m.ln : Int) = l ∧ ∀ i, i < m.ln → (m.un i : Int) = max x 1 ∧ (m.dn i : Int) = max x 1)

theorem at_nine {w : World} {x : Addr} {i : Nat} {y : Nat → SL} (h : ∀ j, j < 9 → w.cell? ((x.add (i * 9)).add j) = some (y j).v) :
    ∃ P, x.add (i * 9) = P ∧ w.cell? P = some (.slice (y 0).a (y 0).n (y 0).c) ∧ w.cell? ⟨P.block, P.off + 1, none⟩ = some (.slice (y 1).a (y 1).n (y 1).c) ∧ w.cell? ⟨P.block, P.off + 2, none⟩ = some (.slice (y 2).a (y 2).n (y 2).c) ∧
      w.cell? ⟨P.block, P.off + 3, none⟩ = some (.slice (y 3).a (y 3).n (y 3).c) ∧ w.cell? ⟨P.block, P.off + 4, none⟩ = some (.slice (y 4).a (y 4).n (y 4).c) ∧ w.cell? ⟨P.block, P.off + 5, none⟩ = some (.slice (y 5).a (y 5).n (y 5).c) ∧
      w.cell? ⟨P.block, P.off + 6, none⟩ = some (.slice (y 6).a (y 6).n (y 6).c) ∧ w.cell? ⟨P.block, P.off + 7, none⟩ = some (.slice (y 7).a (y 7).n (y 7).c) ∧ w.cell? ⟨P.block, P.off + 8, none⟩ = some (.slice (y 8).a (y 8).n (y 8).c) :=
  ⟨_, rfl, h 0 (by omega), h 1 (by omega), h 2 (by omega), h 3 (by omega), h 4 (by omega), h 5 (by omega), h 6 (by omega), h 7 (by omega), h 8 (by omega)⟩

theorem below_one' {w w' : World} {o : Obj} (h : w' = w.alloc o) : Below w.heap.size w w' := h ▸ below_new (Below.refl _ w) o

set_option maxHeartbeats 4000000 in
theorem framed_loop (d h v u x t n : Int) (E L N O : SL) (Y U D : Nat → Nat → SL) (m : ModV) (w : World) (hM : ModAt w E L N O Y U D m) (ml Lc : Nat) (x0 : Addr) (eL : L.n = ml) (eC : L.c = Lc) (eA : L.a = some x0) (hl : ml ≤ 1000000) (X : Int) (B : Bool)
    (no : ∀ i, i < ml → ((m.un i : Int) ≠ X ∨ (m.dn i : Int) ≠ X) → B = false) (yes : (∀ i, i < ml → (m.un i : Int) = X ∧ (m.dn i : Int) = X) → B = true) (l : Int) (g : ((ml : Int) == l) = true)
    (kn : ∀ w, Calls Try.prog 57 #[.agg #[.int .i64 d, .int .i64 h, .int .i64 l, .int .i64 v, .int .i64 u, .int .i64 x, .int .i64 t, .int .i64 n]] w fun e w' => e = .returned (.int .i64 X) ∧ ∃ o, w' = w.alloc o) :
    Calls Try.prog 43 #[.agg #[.int .i64 d, .int .i64 h, .int .i64 l, .int .i64 v, .int .i64 u, .int .i64 x, .int .i64 t, .int .i64 n, .slice E.a E.n E.c, .slice (some x0) ml Lc, .slice N.a N.n N.c, .slice O.a O.n O.c]] w fun e w' => e = .returned (.bool B) ∧ Below w.heap.size w w' := by
  have hb := below_new (Below.refl w.heap.size w) (.cells #[.int .i64 d, .int .i64 h, .int .i64 l, .int .i64 v, .int .i64 u, .int .i64 x, .int .i64 t, .int .i64 n, .slice E.a E.n E.c, .slice (some x0) ml Lc, .slice N.a N.n N.c, .slice O.a O.n O.c] 29)
  have q0 := Blk.new 29 w #[.int .i64 d, .int .i64 h, .int .i64 l, .int .i64 v, .int .i64 u, .int .i64 x, .int .i64 t, .int .i64 n, .slice E.a E.n E.c, .slice (some x0) ml Lc, .slice N.a N.n N.c, .slice O.a O.n O.c]
  have hml : m.ln = ml := hM.len.symm.trans eL
  have HM := hidden_ hM
  have HN := hidden_ no
  have HY := hidden_ yes
  have HL := hidden_ hml
  have HA := hidden_ eA
  have HB := hidden_ hb
  have HQ := hidden_ q0
  clear hM no yes hml eL eC eA hb
  obtain ⟨a0, a1, a2, a3, a4, a5, a6, a7, a8, a9, a10, a11⟩ := q0.c12
  clear q0
  go_enter Try.func43, Try.ntmps43
  go_wp2
  clear a0 a1 a2 a3 a4 a5 a6 a7 a8 a9 a10 a11
  go_loopw [15] (fun i wr => ∃ k : Nat, k ≤ ml ∧ i = .int .i64 k ∧ Below w.heap.size w wr ∧ Blk 29 wr w.heap.size #[.int .i64 d, .int .i64 h, .int .i64 l, .int .i64 v, .int .i64 u, .int .i64 x, .int .i64 t, .int .i64 n, .slice E.a E.n E.c, .slice (some x0) ml Lc, .slice N.a N.n N.c, .slice O.a O.n O.c] ∧ Hid (∀ i, i < k → (m.un i : Int) = X ∧ (m.dn i : Int) = X)) (fun i _ => ml - (intOf i).toNat)
  case atStart => exact ⟨0, Nat.zero_le _, rfl, HB.out, HQ.out, fun i hi => absurd hi (Nat.not_lt_zero _)⟩
  case round =>
    clear HB HQ
    obtain ⟨k, hk, rfl, hb, q1, good⟩ := hrel
    obtain ⟨a0, a1, a2, a3, a4, a5, a6, a7, a8, a9, a10, a11⟩ := q1.c12
    by_cases hlt : k < ml
    · have hlt' : (k : Int) < (ml : Int) := by omega
      have hMr := HM.out.below hb
      have lay := hMr.lay k (by rw [HL.out]; exact hlt)
      have un := lay.u.len
      have dn := lay.d.len
      obtain ⟨P, eP, p0, p1, p2, p3, p4, p5, p6, p7, p8⟩ := at_nine (fun j hj => hMr.cell x0 HA.out k (by rw [HL.out]; exact hlt) j hj)
      have HG := hidden_ (And.intro un dn)
      clear hMr lay
      have q9 := Blk.new 59 wr #[.slice (Y k 0).a (Y k 0).n (Y k 0).c, .slice (Y k 1).a (Y k 1).n (Y k 1).c, .slice (Y k 2).a (Y k 2).n (Y k 2).c, .slice (Y k 3).a (Y k 3).n (Y k 3).c, .slice (Y k 4).a (Y k 4).n (Y k 4).c, .slice (Y k 5).a (Y k 5).n (Y k 5).c, .slice (Y k 6).a (Y k 6).n (Y k 6).c, .slice (Y k 7).a (Y k 7).n (Y k 7).c, .slice (Y k 8).a (Y k 8).n (Y k 8).c]
      have r7 := q9.cell 7 rfl
      have r8 := q9.cell 8 rfl
      have b9 := below_new (Below.refl wr.heap.size wr) (.cells #[.slice (Y k 0).a (Y k 0).n (Y k 0).c, .slice (Y k 1).a (Y k 1).n (Y k 1).c, .slice (Y k 2).a (Y k 2).n (Y k 2).c, .slice (Y k 3).a (Y k 3).n (Y k 3).c, .slice (Y k 4).a (Y k 4).n (Y k 4).c, .slice (Y k 5).a (Y k 5).n (Y k 5).c, .slice (Y k 6).a (Y k 6).n (Y k 6).c, .slice (Y k 7).a (Y k 7).n (Y k 7).c, .slice (Y k 8).a (Y k 8).n (Y k 8).c] 59)
      replace q1 := q1.kept b9
      replace hb := below_then hb b9
      obtain ⟨W9, e9⟩ : ∃ W9, wr.alloc (.cells #[.slice (Y k 0).a (Y k 0).n (Y k 0).c, .slice (Y k 1).a (Y k 1).n (Y k 1).c, .slice (Y k 2).a (Y k 2).n (Y k 2).c, .slice (Y k 3).a (Y k 3).n (Y k 3).c, .slice (Y k 4).a (Y k 4).n (Y k 4).c, .slice (Y k 5).a (Y k 5).n (Y k 5).c, .slice (Y k 6).a (Y k 6).n (Y k 6).c, .slice (Y k 7).a (Y k 7).n (Y k 7).c, .slice (Y k 8).a (Y k 8).n (Y k 8).c] 59) = W9 := ⟨_, rfl⟩
      rw [e9] at q1 hb r7 r8
      have kn' : ∀ d' os, Calls Try.prog 57 #[.agg #[.int .i64 d, .int .i64 h, .int .i64 l, .int .i64 v, .int .i64 u, .int .i64 x, .int .i64 t, .int .i64 n]] (grow (redrawn W9 d') os) fun e w'' => e = .returned (.int .i64 X) ∧ ∃ p : Regrown, w'' = grow (redrawn W9 p.d) p.os := fun d' os =>
        Calls.regrown_of ((kn _).mono fun e w' he => ⟨he.1, below_one he.2⟩)
      obtain ⟨b0, b1, b2, b3, b4, b5, b6, b7, -, -, -, -⟩ := q1.c12
      replace r7 := cell_regrown r7
      replace r8 := cell_regrown r8
      clear q9
      have E9 := hidden_ e9
      clear e9 kn
      replace b0 := cell_regrown b0
      replace b1 := cell_regrown b1
      replace b2 := cell_regrown b2
      replace b3 := cell_regrown b3
      replace b4 := cell_regrown b4
      replace b5 := cell_regrown b5
      replace b6 := cell_regrown b6
      replace b7 := cell_regrown b7
      clear a0 a1 a2 a3 a4 a5 a6 a7 a8 a10 a11 g
      by_cases g1 : ((Y k 7).n : Int) = X
      · have g1' : (((Y k 7).n : Int) != X) = false := by simp [g1]
        by_cases g2 : ((Y k 8).n : Int) = X
        · have g2' : (((Y k 8).n : Int) != X) = false := by simp [g2]
          have good' : Hid (∀ i, i < k + 1 → (m.un i : Int) = X ∧ (m.dn i : Int) = X) := fun i hi => by
            by_cases e : i = k
            · subst e; exact ⟨by rw [← un]; exact g1, by rw [← dn]; exact g2⟩
            · exact good.out i (by omega)
          clear un dn b9 g1 g2 good
          go_wp2
          rw [E9.out]
          refine wp_region_quiet_below (by kernel_rfl) (by kernel_rfl) ?_
          repeat (go_big_quiet_step (first | (go_at_call 57; exact kn' _ _)))
          refine wpQuiet_nil ?_
          intro _ hw'
          obtain ⟨⟨dq, osq⟩, hw''⟩ := hw'
          subst hw''
          have hbq := below_regrown W9 dq osq
          replace q1 := q1.kept hbq
          replace hb := below_then hb hbq
          clear hbq kn' r7 r8 b0 b1 b2 b3 b4 b5 b6 b7
          clear a9
          go_wp2
          go_roundw
          case rel => exact ⟨k + 1, by omega, by go_num, hb, q1, good'⟩
          case measure => simp [intOf]; omega
        · have g2' : (((Y k 8).n : Int) != X) = true := by simp [g2]
          have e := HN.out k hlt (.inr (by rw [← dn]; exact g2))
          clear un dn b9 g1 g2 good
          subst e
          go_wp2
          rw [E9.out]
          refine wp_region_quiet_below (by kernel_rfl) (by kernel_rfl) ?_
          repeat (go_big_quiet_step (first | (go_at_call 57; exact kn' _ _)))
          refine wpQuiet_nil ?_
          intro _ hw'
          obtain ⟨⟨dq, osq⟩, hw''⟩ := hw'
          subst hw''
          have hbq := below_regrown W9 dq osq
          replace q1 := q1.kept hbq
          replace hb := below_then hb hbq
          clear hbq kn' r7 r8 b0 b1 b2 b3 b4 b5 b6 b7
          all_goals
            go_wp2
            go_ret
            exact ⟨rfl, hb⟩
      · have g1' : (((Y k 7).n : Int) != X) = true := by simp [g1]
        have e := HN.out k hlt (.inl (by rw [← un]; exact g1))
        clear un dn b9 g1 good
        subst e
        go_wp2
        rw [E9.out]
        refine wp_region_quiet_below (by kernel_rfl) (by kernel_rfl) ?_
        repeat (go_big_quiet_step (first | (go_at_call 57; exact kn' _ _)))
        refine wpQuiet_nil ?_
        intro _ hw'
        obtain ⟨⟨dq, osq⟩, hw''⟩ := hw'
        subst hw''
        have hbq := below_regrown W9 dq osq
        replace q1 := q1.kept hbq
        replace hb := below_then hb hbq
        clear hbq kn' r7 r8 b0 b1 b2 b3 b4 b5 b6 b7
        all_goals
          go_wp2
          go_ret
          exact ⟨rfl, hb⟩
    · have e : k = ml := by omega
      subst e
      have e := HY.out good.out
      subst e
      go_wp2
      go_ret
      exact ⟨rfl, hb⟩

end Go.Proofs.Ytjbeloljbjfibaa
