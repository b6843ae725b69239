/- The document's Same of two models that hold the same. -/
import Derived.Test.YtjbeloljbjfibaaRows
import Derived.Test.YtjbeloljbjfibaaView
import Derived.Test.YtjbeloljbjfibaaOwn
import Derived.Test.YtjbeloljbjfibaaCfg
import Derived.Test.YtjbeloljbjfibaaCfgs
import Derived.Test.YtjbeloljbjfibaaHeld
import Derived.Test.YtjbeloljbjfibaaTexts
import Derived.Test.YtjbeloljbjfibaaSums
import Derived.Test.YtjbeloljbjfibaaSeals
import Derived.Test.YtjbeloljbjfibaaReader
import Derived.Test.YtjbeloljbjfibaaBlank
import Derived.Test.YtjbeloljbjfibaaCfgRef
import Derived.Test.YtjbeloljbjfibaaSize
import Derived.Test.YtjbeloljbjfibaaSizes
import Derived.Test.YtjbeloljbjfibaaSteps
import Derived.Test.YtjbeloljbjfibaaClo54
import Derived.Test.YtjbeloljbjfibaaFill
import Derived.Test.YtjbeloljbjfibaaMods
import Derived.Test.YtjbeloljbjfibaaCheck
import Derived.Test.YtjbeloljbjfibaaTwos
import Derived.Test.YtjbeloljbjfibaaOpens
import Derived.Test.YtjbeloljbjfibaaWts
import Derived.Test.YtjbeloljbjfibaaRdWts
import Derived.Test.YtjbeloljbjfibaaRefWts
import Derived.Test.YtjbeloljbjfibaaStEq
import Derived.Test.YtjbeloljbjfibaaSameL
import Derived.WalkKit
import Derived.ProofKit
import Derived.OpenShut
import Derived.Below
import Derived.WalkLawsBesides
import Derived.Deep.QuietTactic
import Derived.BigQuiet
import Derived.Deep.RegionWith
import Derived.Deep.RegionHeld3
import Derived.Deep.OwnRows
import Derived.Lib.QuietBelow
namespace Go.Proofs.Ytjbeloljbjfibaa
open Go.ChangeShapes Go.WideShapes Go.ChangeAt Go.RowKit Go.Sort
set_option linter.unusedVariables false


set_option maxHeartbeats 4000000 in
theorem same_walk (d h l v u x t n : Int) (E N O E' N' O' : SL) (La La' : Option Addr) (ml Lc Lc' : Nat) (L L' : SL) (Y U D Y' U' D' : Nat → Nat → SL) (m : ModV) (w : World) (hA : ModAt w E L N O Y U D m) (hB : ModAt w E' L' N' O' Y' U' D' m)
    (e1 : L.a = La) (e2 : L'.a = La') (hml : m.ln = ml) (hu : ml ≤ 4611686018427387904) (hun : ∀ i, i < ml → m.un i ≤ 9223372036854775807 ∧ m.dn i ≤ 9223372036854775807) :
    Calls Try.prog 21 #[.agg #[.int .i64 d, .int .i64 h, .int .i64 l, .int .i64 v, .int .i64 u, .int .i64 x, .int .i64 t, .int .i64 n, .slice E.a E.n E.c, .slice La ml Lc, .slice N.a N.n N.c, .slice O.a O.n O.c], .agg #[.int .i64 d, .int .i64 h, .int .i64 l, .int .i64 v, .int .i64 u, .int .i64 x, .int .i64 t, .int .i64 n, .slice E'.a E'.n E'.c, .slice La' ml Lc', .slice N'.a N'.n N'.c, .slice O'.a O'.n O'.c]] w fun e w' => e = .returned (.bool true) ∧ Below w.heap.size w w' := by
  obtain ⟨W0, eW⟩ : ∃ W0, (w.alloc (.cells #[.int .i64 d, .int .i64 h, .int .i64 l, .int .i64 v, .int .i64 u, .int .i64 x, .int .i64 t, .int .i64 n, .slice E.a E.n E.c, .slice La ml Lc, .slice N.a N.n N.c, .slice O.a O.n O.c] 29)).alloc (.cells #[.int .i64 d, .int .i64 h, .int .i64 l, .int .i64 v, .int .i64 u, .int .i64 x, .int .i64 t, .int .i64 n, .slice E'.a E'.n E'.c, .slice La' ml Lc', .slice N'.a N'.n N'.c, .slice O'.a O'.n O'.c] 29) = W0 := ⟨_, rfl⟩
  have hb : Below w.heap.size w W0 := eW ▸ below_new (below_new (Below.refl _ w) _) _
  have qa : Blk 29 W0 w.heap.size #[.int .i64 d, .int .i64 h, .int .i64 l, .int .i64 v, .int .i64 u, .int .i64 x, .int .i64 t, .int .i64 n, .slice E.a E.n E.c, .slice La ml Lc, .slice N.a N.n N.c, .slice O.a O.n O.c] := eW ▸ (Blk.new 29 w _).kept (below_new (Below.refl _ _) _)
  have qb : Blk 29 W0 (w.heap.size + 1) #[.int .i64 d, .int .i64 h, .int .i64 l, .int .i64 v, .int .i64 u, .int .i64 x, .int .i64 t, .int .i64 n, .slice E'.a E'.n E'.c, .slice La' ml Lc', .slice N'.a N'.n N'.c, .slice O'.a O'.n O'.c] := eW ▸ Blk.new_at 29 (w.alloc _) _ _ (by simp)
  replace hA := hA.below hb
  replace hB := hB.below hb
  have EW := hidden_ eW
  have HA := hidden_ hA
  have HB := hidden_ hB
  have QA := hidden_ qa
  have QB := hidden_ qb
  obtain ⟨a0, a1, a2, a3, a4, a5, a6, a7, a8, a9, a10, a11⟩ := qa.c12
  obtain ⟨b0, b1, b2, b3, b4, b5, b6, b7, b8, b9, b10, b11⟩ := qb.c12
  have neq := cfg_neq d h l v u x t n
  have ke : Hid (∀ W, (∃ m, W = W0.drewN m) → Calls Try.prog 18 #[.slice E.a E.n E.c, .slice E'.a E'.n E'.c] W fun e w' => e = .returned (.bool true) ∧ ∃ m, w' = W.drewN m) := fun W hW => (drew_is hW hA.e).same (drew_is hW hB.e) _ _
  have kn : Hid (∀ W, (∃ m, W = W0.drewN m) → Calls Try.prog 18 #[.slice N.a N.n N.c, .slice N'.a N'.n N'.c] W fun e w' => e = .returned (.bool true) ∧ ∃ m, w' = W.drewN m) := fun W hW => (drew_is hW hA.nm).same (drew_is hW hB.nm) _ _
  have ko : Hid (∀ W, (∃ m, W = W0.drewN m) → Calls Try.prog 18 #[.slice O.a O.n O.c, .slice O'.a O'.n O'.c] W fun e w' => e = .returned (.bool true) ∧ ∃ m, w' = W.drewN m) := fun W hW => (drew_is hW hA.o).same (drew_is hW hB.o) _ _
  have HW : Hid (∃ m, W0 = W0.drewN m) := ⟨0, rfl⟩
  have HL := hidden_ (And.intro e1 e2)
  have HM := hidden_ hml
  have HU := hidden_ hun
  have HBW := hidden_ hb
  clear eW hA hB qa qb e1 e2 hml hun hb
  go_enter Try.func21, Try.ntmps21
  go_wp2_with fail
  rw [EW.out]
  clear EW
  go_wp2_with (first
    | (go_at_call_of 18 E; refine (ke.out _ HW.out).mono ?_; rintro e W5 ⟨rfl, h5⟩; replace HW := hidden_ (drew_then HW.out h5); clear h5 ke a0 a1 a2 a3 a4 a5 a6 a7 a8 a9 a10 a11 b0 b1 b2 b3 b4 b5 b6 b7 b8 b9 b10 b11; obtain ⟨a0, a1, a2, a3, a4, a5, a6, a7, a8, a9, a10, a11⟩ := (drew_blk HW.out QA.out).c12; obtain ⟨b0, b1, b2, b3, b4, b5, b6, b7, b8, b9, b10, b11⟩ := (drew_blk HW.out QB.out).c12)
    | (go_at_call 18; refine (kn.out _ HW.out).mono ?_; rintro e W5 ⟨rfl, h5⟩; replace HW := hidden_ (drew_then HW.out h5); clear h5 kn a0 a1 a2 a3 a4 a5 a6 a7 a8 a9 a10 a11 b0 b1 b2 b3 b4 b5 b6 b7 b8 b9 b10 b11; obtain ⟨a0, a1, a2, a3, a4, a5, a6, a7, a8, a9, a10, a11⟩ := (drew_blk HW.out QA.out).c12; obtain ⟨b0, b1, b2, b3, b4, b5, b6, b7, b8, b9, b10, b11⟩ := (drew_blk HW.out QB.out).c12)
    | (go_at_call 18; refine (ko.out _ HW.out).mono ?_; rintro e W5 ⟨rfl, h5⟩; replace HW := hidden_ (drew_then HW.out h5); clear h5 ko a0 a1 a2 a3 a4 a5 a6 a7 a8 a9 a10 a11 b0 b1 b2 b3 b4 b5 b6 b7 b8 b9 b10 b11; obtain ⟨a0, a1, a2, a3, a4, a5, a6, a7, a8, a9, a10, a11⟩ := (drew_blk HW.out QA.out).c12; obtain ⟨b0, b1, b2, b3, b4, b5, b6, b7, b8, b9, b10, b11⟩ := (drew_blk HW.out QB.out).c12))
  clear a0 a1 a2 a3 a4 a5 a6 a7 a8 a9 a10 a11 b0 b1 b2 b3 b4 b5 b6 b7 b8 b9 b10 b11 neq
  go_loopw [5] (fun i wr => ∃ k : Nat, k ≤ ml ∧ i = .int .i64 k ∧ Below W0.heap.size W0 wr) (fun i _ => ml - (intOf i).toNat)
  case atStart => exact ⟨0, Nat.zero_le _, rfl, below_drew (Below.refl _ _) HW.out⟩
  case round =>
    clear HW
    obtain ⟨k, hk, rfl, hbr⟩ := hrel
    obtain ⟨a0, a1, a2, a3, a4, a5, a6, a7, a8, a9, a10, a11⟩ := (QA.out.kept hbr).c12
    obtain ⟨b0, b1, b2, b3, b4, b5, b6, b7, b8, b9, b10, b11⟩ := (QB.out.kept hbr).c12
    by_cases hlt : k < ml
    · have hMa := HA.out.below hbr
      have hMb := HB.out.below hbr
      have hkm : k < m.ln := by rw [HM.out]; exact hlt
      obtain ⟨x0, hx0⟩ := hMa.some_ (by omega)
      obtain ⟨y0, hy0⟩ := hMb.some_ (by omega)
      have la := hMa.lay k hkm
      have lb := hMb.lay k hkm
      obtain ⟨P, eP, p0, p1, p2, p3, p4, p5, p6, p7, p8⟩ := at_nine (fun j hj => hMa.cell x0 hx0 k hkm j hj)
      obtain ⟨R, eR, r0, r1, r2, r3, r4, r5, r6, r7, r8⟩ := at_nine (fun j hj => hMb.cell y0 hy0 k hkm j hj)
      obtain rfl : La = some x0 := HL.out.1.symm.trans hx0
      obtain rfl : La' = some y0 := HL.out.2.symm.trans hy0
      rw [la.u.len] at p7
      rw [la.d.len] at p8
      rw [lb.u.len] at r7
      rw [lb.d.len] at r8
      have hun := HU.out k hlt
      have k46 : ∀ d' os, Calls Try.prog 46 #[.agg #[.slice (Y k 0).a (Y k 0).n (Y k 0).c, .slice (Y k 1).a (Y k 1).n (Y k 1).c, .slice (Y k 2).a (Y k 2).n (Y k 2).c, .slice (Y k 3).a (Y k 3).n (Y k 3).c, .slice (Y k 4).a (Y k 4).n (Y k 4).c, .slice (Y k 5).a (Y k 5).n (Y k 5).c, .slice (Y k 6).a (Y k 6).n (Y k 6).c, .slice (Y k 7).a (m.un k) (Y k 7).c, .slice (Y k 8).a (m.dn k) (Y k 8).c], .agg #[.slice (Y' k 0).a (Y' k 0).n (Y' k 0).c, .slice (Y' k 1).a (Y' k 1).n (Y' k 1).c, .slice (Y' k 2).a (Y' k 2).n (Y' k 2).c, .slice (Y' k 3).a (Y' k 3).n (Y' k 3).c, .slice (Y' k 4).a (Y' k 4).n (Y' k 4).c, .slice (Y' k 5).a (Y' k 5).n (Y' k 5).c, .slice (Y' k 6).a (Y' k 6).n (Y' k 6).c, .slice (Y' k 7).a (m.un k) (Y' k 7).c, .slice (Y' k 8).a (m.dn k) (Y' k 8).c]] (grow (redrawn wr d') os) fun e w'' => e = .returned (.bool true) ∧ ∃ p : Regrown, w'' = grow (redrawn wr p.d) p.os := fun d' os =>
        Calls.regrown_of (sameLayer_walk _ _ _ _ _ _ _ _ _ _ _ _ (la.below (below_regrown wr d' os)) (lb.below (below_regrown wr d' os)) hun.1 hun.2)
      have hlt' : (k : Int) < (ml : Int) := by omega
      clear la lb hMa hMb hun HA HB
      go_wp2
      replace a9 := cell_regrown a9
      replace b9 := cell_regrown b9
      replace p0 := cell_regrown p0
      replace p1 := cell_regrown p1
      replace p2 := cell_regrown p2
      replace p3 := cell_regrown p3
      replace p4 := cell_regrown p4
      replace p5 := cell_regrown p5
      replace p6 := cell_regrown p6
      replace p7 := cell_regrown p7
      replace p8 := cell_regrown p8
      replace r0 := cell_regrown r0
      replace r1 := cell_regrown r1
      replace r2 := cell_regrown r2
      replace r3 := cell_regrown r3
      replace r4 := cell_regrown r4
      replace r5 := cell_regrown r5
      replace r6 := cell_regrown r6
      replace r7 := cell_regrown r7
      replace r8 := cell_regrown r8
      refine wp_region_quiet_below (by kernel_rfl) (by kernel_rfl) ?_
      repeat (go_big_quiet_step (first | (go_at_call 46; exact k46 _ _)))
      refine wpQuiet_nil ?_
      intro _ hw'
      obtain ⟨⟨dq, osq⟩, hw''⟩ := hw'
      subst hw''
      have hbq := below_then hbr (below_regrown wr dq osq)
      clear k46 a0 a1 a2 a3 a4 a5 a6 a7 a8 a9 a10 a11 b0 b1 b2 b3 b4 b5 b6 b7 b8 b9 b10 b11 p0 p1 p2 p3 p4 p5 p6 p7 p8 r0 r1 r2 r3 r4 r5 r6 r7 r8
      go_wp2
      go_roundw
      case rel => exact ⟨k + 1, by omega, by go_num, hbq⟩
      case measure => simp [intOf]; omega
    · have e : k = ml := by omega
      subst e
      go_wp2
      go_ret
      exact ⟨rfl, below_then HBW.out hbr⟩

/-- two models of one configuration that hold the same are the same -/
theorem sameM_call (d h l v u x t n : Int) (E L N O E' L' N' O' : SL) (Y U D Y' U' D' : Nat → Nat → SL) (m : ModV) (w : World) (hA : ModAt w E L N O Y U D m) (hB : ModAt w E' L' N' O' Y' U' D' m) (hu : m.ln ≤ 4611686018427387904)
    (hun : ∀ i, i < m.ln → m.un i ≤ 9223372036854775807 ∧ m.dn i ≤ 9223372036854775807) :
    Calls Try.prog 21 #[.agg #[.int .i64 d, .int .i64 h, .int .i64 l, .int .i64 v, .int .i64 u, .int .i64 x, .int .i64 t, .int .i64 n, .slice E.a E.n E.c, .slice L.a L.n L.c, .slice N.a N.n N.c, .slice O.a O.n O.c], .agg #[.int .i64 d, .int .i64 h, .int .i64 l, .int .i64 v, .int .i64 u, .int .i64 x, .int .i64 t, .int .i64 n, .slice E'.a E'.n E'.c, .slice L'.a L'.n L'.c, .slice N'.a N'.n N'.c, .slice O'.a O'.n O'.c]] w fun e w' => e = .returned (.bool true) ∧ Below w.heap.size w w' := by
  have := same_walk d h l v u x t n E N O E' N' O' L.a L'.a m.ln L.c L'.c L L' Y U D Y' U' D' m w hA hB rfl rfl rfl hu hun
  rw [hA.len, hB.len]
  exact this

end Go.Proofs.Ytjbeloljbjfibaa
