/- Texts put together: SameL, SameM. -/
import Derived.Test.YtjbeloljbjfibaaRows
import Derived.Test.YtjbeloljbjfibaaLayer8
import Derived.Test.YtjbeloljbjfibaaConf
import Derived.Test.YtjbeloljbjfibaaBlank
import Derived.Test.YtjbeloljbjfibaaCfgRef
import Derived.Test.YtjbeloljbjfibaaSize
import Derived.Test.YtjbeloljbjfibaaSizes
import Derived.Test.YtjbeloljbjfibaaSteps
import Derived.Test.YtjbeloljbjfibaaClo54
import Derived.Test.YtjbeloljbjfibaaFill
import Derived.Test.YtjbeloljbjfibaaMods
import Derived.WalkKit
import Derived.ProofKit
import Derived.OpenShut
import Derived.Below
import Derived.WalkLawsBesides
import Derived.Deep.QuietTactic
import Derived.BigQuiet
import Derived.Deep.RegionWith
import Derived.Deep.RegionHeld3
import Derived.Deep.OwnRows
import Derived.Test.YtjbeloljbjfibaaCheck
import Derived.Test.YtjbeloljbjfibaaEqWorks
import Derived.Lib.QuietBelow
namespace Go.Proofs.Ytjbeloljbjfibaa

/- The document's Same of two layers that hold the same. -/
section
open Go.ChangeShapes Go.WideShapes Go.ChangeAt Go.RowKit
set_option linter.unusedVariables false


theorem IsS.same {w : World} {s s' : SL} {zs : List Int} (h : IsS w s zs) (h' : IsS w s' zs) (c c' : Nat) : Calls Try.prog 18 #[.slice s.a s.n c, .slice s'.a s'.n c'] w fun e w' => e = .returned (.bool true) ∧ ∃ m, w' = w.drewN m :=
  same_call s.a s.n c zs s'.a s'.n c' w h.reads h'.reads

theorem Blk.c9 {t0 : TypeId} {w : World} {b : Nat} {x0 x1 x2 x3 x4 x5 x6 x7 x8 : Value} (k : Blk t0 w b #[x0, x1, x2, x3, x4, x5, x6, x7, x8]) : w.cell? ⟨b, 0, none⟩ = some x0 ∧ w.cell? ⟨b, 1, none⟩ = some x1 ∧ w.cell? ⟨b, 2, none⟩ = some x2 ∧ w.cell? ⟨b, 3, none⟩ = some x3 ∧ w.cell? ⟨b, 4, none⟩ = some x4 ∧ w.cell? ⟨b, 5, none⟩ = some x5 ∧ w.cell? ⟨b, 6, none⟩ = some x6 ∧ w.cell? ⟨b, 7, none⟩ = some x7 ∧ w.cell? ⟨b, 8, none⟩ = some x8 :=
  ⟨k.cell 0 rfl, k.cell 1 rfl, k.cell 2 rfl, k.cell 3 rfl, k.cell 4 rfl, k.cell 5 rfl, k.cell 6 rfl, k.cell 7 rfl, k.cell 8 rfl⟩

theorem drew_cell {W W0 : World} (h : ∃ m, W = W0.drewN m) {p : Addr} {v : Value} (hp : W0.cell? p = some v) : W.cell? p = some v := by
  obtain ⟨m, rfl⟩ := h
  exact hp
theorem drew_blk {W W0 : World} (h : ∃ m, W = W0.drewN m) {t : TypeId} {b : Nat} {cs : Array Value} (hp : Blk t W0 b cs) : Blk t W b cs := by
  obtain ⟨m, rfl⟩ := h
  exact hp
theorem drew_then {W W' W0 : World} (h : ∃ m, W = W0.drewN m) (k : ∃ m, W' = W.drewN m) : ∃ m, W' = W0.drewN m := by
  obtain ⟨m, rfl⟩ := h
  obtain ⟨n, rfl⟩ := k
  exact ⟨_, World.drewN_drewN _ _ _⟩
theorem drew_is {W W0 : World} (h : ∃ m, W = W0.drewN m) {s : SL} {zs : List Int} (hp : IsS W0 s zs) : IsS W s zs := by
  obtain ⟨m, rfl⟩ := h
  exact hp.drewN m

set_option maxHeartbeats 4000000 in
theorem sameLayer_walk (Y U D Y' U' D' : Nat → SL) (f : Nat → List Int) (un dn : Nat) (u d : Nat → List Int) (w : World) (hA : IsY w Y U D f un dn u d) (hB : IsY w Y' U' D' f un dn u d) (hu : un ≤ 9223372036854775807) (hd : dn ≤ 9223372036854775807) :
    Calls Try.prog 46 #[.agg #[.slice (Y 0).a (Y 0).n (Y 0).c, .slice (Y 1).a (Y 1).n (Y 1).c, .slice (Y 2).a (Y 2).n (Y 2).c, .slice (Y 3).a (Y 3).n (Y 3).c, .slice (Y 4).a (Y 4).n (Y 4).c, .slice (Y 5).a (Y 5).n (Y 5).c, .slice (Y 6).a (Y 6).n (Y 6).c, .slice (Y 7).a un (Y 7).c, .slice (Y 8).a dn (Y 8).c], .agg #[.slice (Y' 0).a (Y' 0).n (Y' 0).c, .slice (Y' 1).a (Y' 1).n (Y' 1).c, .slice (Y' 2).a (Y' 2).n (Y' 2).c, .slice (Y' 3).a (Y' 3).n (Y' 3).c, .slice (Y' 4).a (Y' 4).n (Y' 4).c, .slice (Y' 5).a (Y' 5).n (Y' 5).c, .slice (Y' 6).a (Y' 6).n (Y' 6).c, .slice (Y' 7).a un (Y' 7).c, .slice (Y' 8).a dn (Y' 8).c]] w fun e w' => e = .returned (.bool true) ∧ Below w.heap.size w w' := by
  obtain ⟨W0, eW⟩ : ∃ W0, (w.alloc (.cells #[.slice (Y 0).a (Y 0).n (Y 0).c, .slice (Y 1).a (Y 1).n (Y 1).c, .slice (Y 2).a (Y 2).n (Y 2).c, .slice (Y 3).a (Y 3).n (Y 3).c, .slice (Y 4).a (Y 4).n (Y 4).c, .slice (Y 5).a (Y 5).n (Y 5).c, .slice (Y 6).a (Y 6).n (Y 6).c, .slice (Y 7).a un (Y 7).c, .slice (Y 8).a dn (Y 8).c] 59)).alloc (.cells #[.slice (Y' 0).a (Y' 0).n (Y' 0).c, .slice (Y' 1).a (Y' 1).n (Y' 1).c, .slice (Y' 2).a (Y' 2).n (Y' 2).c, .slice (Y' 3).a (Y' 3).n (Y' 3).c, .slice (Y' 4).a (Y' 4).n (Y' 4).c, .slice (Y' 5).a (Y' 5).n (Y' 5).c, .slice (Y' 6).a (Y' 6).n (Y' 6).c, .slice (Y' 7).a un (Y' 7).c, .slice (Y' 8).a dn (Y' 8).c] 59) = W0 := ⟨_, rfl⟩
  have hb : Below w.heap.size w W0 := eW ▸ below_new (below_new (Below.refl _ w) _) _
  have qa : Blk 59 W0 w.heap.size #[.slice (Y 0).a (Y 0).n (Y 0).c, .slice (Y 1).a (Y 1).n (Y 1).c, .slice (Y 2).a (Y 2).n (Y 2).c, .slice (Y 3).a (Y 3).n (Y 3).c, .slice (Y 4).a (Y 4).n (Y 4).c, .slice (Y 5).a (Y 5).n (Y 5).c, .slice (Y 6).a (Y 6).n (Y 6).c, .slice (Y 7).a un (Y 7).c, .slice (Y 8).a dn (Y 8).c] := eW ▸ (Blk.new 59 w _).kept (below_new (Below.refl _ _) _)
  have qb : Blk 59 W0 (w.heap.size + 1) #[.slice (Y' 0).a (Y' 0).n (Y' 0).c, .slice (Y' 1).a (Y' 1).n (Y' 1).c, .slice (Y' 2).a (Y' 2).n (Y' 2).c, .slice (Y' 3).a (Y' 3).n (Y' 3).c, .slice (Y' 4).a (Y' 4).n (Y' 4).c, .slice (Y' 5).a (Y' 5).n (Y' 5).c, .slice (Y' 6).a (Y' 6).n (Y' 6).c, .slice (Y' 7).a un (Y' 7).c, .slice (Y' 8).a dn (Y' 8).c] := eW ▸ Blk.new_at 59 (w.alloc _) _ _ (by simp)
  replace hA := hA.below hb
  replace hB := hB.below hb
  have EW := hidden_ eW
  have HA := hidden_ hA
  have HB := hidden_ hB
  have QA := hidden_ qa
  have QB := hidden_ qb
  have a7 := qa.cell 7 rfl
  have a8 := qa.cell 8 rfl
  have b7 := qb.cell 7 rfl
  have b8 := qb.cell 8 rfl
  have ks7 : Hid (∀ W, (∃ m, W = W0.drewN m) → ∀ j, j < 7 → Calls Try.prog 18 #[.slice (Y j).a (Y j).n (Y j).c, .slice (Y' j).a (Y' j).n (Y' j).c] W fun e w' => e = .returned (.bool true) ∧ ∃ m, w' = W.drewN m) := fun W hW j hj =>
    (drew_is hW (HA.out.f j hj)).same (drew_is hW (HB.out.f j hj)) _ _
  clear eW hA hB qa qb
  go_enter Try.func46, Try.ntmps46
  go_wp2_with fail
  rw [EW.out]
  clear EW
  go_wp2
  go_loopw [5] (fun i wr => ∃ k : Nat, k ≤ un ∧ i = .int .i64 k ∧ ∃ m, wr = W0.drewN m) (fun i _ => un - (intOf i).toNat)
  case atStart => exact ⟨0, Nat.zero_le _, rfl, 0, rfl⟩
  case round =>
    obtain ⟨k, hk, rfl, m, hw⟩ := hrel
    have c7 : wr.cell? ⟨w.heap.size, 7, none⟩ = some (.slice (Y 7).a un (Y 7).c) := by rw [hw]; exact a7
    have e7 : wr.cell? ⟨w.heap.size + 1, 7, none⟩ = some (.slice (Y' 7).a un (Y' 7).c) := by rw [hw]; exact b7
    by_cases hlt : k < un
    · obtain ⟨x, ex⟩ := HA.out.u.some_ (by omega)
      obtain ⟨y, ey⟩ := HB.out.u.some_ (by omega)
      have cx : wr.cell? (x.add k) = some (.slice (U k).a (U k).n (U k).c) := by rw [hw]; exact HA.out.u.cell x ex k hlt
      have cy : wr.cell? (y.add k) = some (.slice (U' k).a (U' k).n (U' k).c) := by rw [hw]; exact HB.out.u.cell y ey k hlt
      rw [ex] at c7
      rw [ey] at e7
      have ks : ∀ n, Calls Try.prog 18 #[.slice (U k).a (U k).n (U k).c, .slice (U' k).a (U' k).n (U' k).c] (wr.drewN n) fun e w' => e = .returned (.bool true) ∧ ∃ m, w' = (wr.drewN n).drewN m := fun n => by
        have r1 : IsS wr (U k) (u k) := by rw [hw]; exact (HA.out.u.row k hlt).drewN m
        have r2 : IsS wr (U' k) (u k) := by rw [hw]; exact (HB.out.u.row k hlt).drewN m
        exact (r1.drewN n).same (r2.drewN n) _ _
      have Hw : Hid (wr = W0.drewN m) := hw
      have hlt' : (k : Int) < (un : Int) := by omega
      clear hw a7 a8 b7 b8
      go_wp2
      go_quiet (first | (go_at_call 18; refine Calls.quiet_of (ks _)))
      go_wp2
      go_roundw
      case rel => exact ⟨k + 1, by omega, by go_num, _, by rw [Hw.out, World.drewN_drewN]⟩
      case measure => simp [intOf]; omega
    · have e : k = un := by omega
      subst e
      have hW : ∃ m, wr = W0.drewN m := ⟨m, hw⟩
      have c8 := drew_cell hW a8
      have e8 := drew_cell hW b8
      have HW := hidden_ hW
      clear hw hW a7 a8 b7 b8
      rename World => W1
      go_wp2
      go_loopw [6] (fun i wr => ∃ k : Nat, k ≤ dn ∧ i = .int .i64 k ∧ ∃ m, wr = W0.drewN m) (fun i _ => dn - (intOf i).toNat)
      case atStart => exact ⟨0, Nat.zero_le _, rfl, HW.out⟩
      case round =>
        clear c7 e7 c8 e8 HW
        obtain ⟨j, hj, rfl, hW⟩ := hrel
        obtain ⟨a0, a1, a2, a3, a4, a5, a6, a7, a8⟩ := (drew_blk hW QA.out).c9
        obtain ⟨b0, b1, b2, b3, b4, b5, b6, b7, b8⟩ := (drew_blk hW QB.out).c9
        have HW := hidden_ hW
        by_cases hlj : j < dn
        · obtain ⟨x, ex⟩ := HA.out.d.some_ (by omega)
          obtain ⟨y, ey⟩ := HB.out.d.some_ (by omega)
          have cx := drew_cell hW (HA.out.d.cell x ex j hlj)
          have cy := drew_cell hW (HB.out.d.cell y ey j hlj)
          rw [ex] at a8
          rw [ey] at b8
          unfold SL.v at cx cy
          have ks : ∀ n, Calls Try.prog 18 #[.slice (D j).a (D j).n (D j).c, .slice (D' j).a (D' j).n (D' j).c] (wr.drewN n) fun e w' => e = .returned (.bool true) ∧ ∃ m, w' = (wr.drewN n).drewN m := fun n =>
            ((drew_is hW (HA.out.d.row j hlj)).drewN n).same ((drew_is hW (HB.out.d.row j hlj)).drewN n) _ _
          have hlj' : (j : Int) < (dn : Int) := by omega
          clear hW a0 a1 a2 a3 a4 a5 a6 a7 b0 b1 b2 b3 b4 b5 b6 b7
          go_wp2
          go_quiet (first | (go_at_call 18; refine Calls.quiet_of (ks _)))
          go_wp2
          go_roundw
          case rel => exact ⟨j + 1, by omega, by go_num, drew_then HW.out ⟨_, rfl⟩⟩
          case measure => simp [intOf]; omega
        · have e : j = dn := by omega
          subst e
          clear hW
          go_wp2_with (first
            | (go_at_call 18; refine (ks7.out _ HW.out _ (by omega)).mono ?_; rintro e W5 ⟨rfl, h5⟩; replace HW := hidden_ (drew_then HW.out h5); clear h5 a0 a1 a2 a3 a4 a5 a6 a7 a8 b0 b1 b2 b3 b4 b5 b6 b7 b8; obtain ⟨a0, a1, a2, a3, a4, a5, a6, a7, a8⟩ := (drew_blk HW.out QA.out).c9; obtain ⟨b0, b1, b2, b3, b4, b5, b6, b7, b8⟩ := (drew_blk HW.out QB.out).c9))
          go_ret
          exact ⟨rfl, below_drew hb HW.out⟩
end

/- The document's Same of two models that hold the same. -/
section
open Go.ChangeShapes Go.WideShapes Go.ChangeAt Go.RowKit Go.Sort
set_option linter.unusedVariables false


set_option maxHeartbeats 4000000 in
theorem same_walk (d h l v u x t n : Int) (E N O E' N' O' : SL) (La La' : Option Addr) (ml Lc Lc' : Nat) (L L' : SL) (Y U D Y' U' D' : Nat → Nat → SL) (m : ModV) (w : World) (hA : ModAt w E L N O Y U D m) (hB : ModAt w E' L' N' O' Y' U' D' m)
    (e1 : L.a = La) (e2 : L'.a = La') (hml : m.ln = ml) (hu : ml ≤ 4611686018427387904) (hun : ∀ i, i < ml → m.un i ≤ 9223372036854775807 ∧ m.dn i ≤ 9223372036854775807) :
    Calls Try.prog 21 #[.agg #[.int .i64 d, .int .i64 h, .int .i64 l, .int .i64 v, .int .i64 u, .int .i64 x, .int .i64 t, .int .i64 n, .slice E.a E.n E.c, .slice La ml Lc, .slice N.a N.n N.c, .slice O.a O.n O.c], .agg #[.int .i64 d, .int .i64 h, .int .i64 l, .int .i64 v, .int .i64 u, .int .i64 x, .int .i64 t, .int .i64 n, .slice E'.a E'.n E'.c, .slice La' ml Lc', .slice N'.a N'.n N'.c, .slice O'.a O'.n O'.c]] w fun e w' => e = .returned (.bool true) ∧ Below w.heap.size w w' := by
  obtain ⟨W0, eW⟩ : ∃ W0, (w.alloc (.cells #[.int .i64 d, .int .i64 h, .int .i64 l, .int .i64 v, .int .i64 u, .int .i64 x, .int .i64 t, .int .i64 n, .slice E.a E.n E.c, .slice La ml Lc, .slice N.a N.n N.c, .slice O.a O.n O.c] 29)).alloc (.cells #[.int .i64 d, .int .i64 h, .int .i64 l, .int .i64 v, .int .i64 u, .int .i64 x, .int .i64 t, .int .i64 n, .slice E'.a E'.n E'.c, .slice La' ml Lc', .slice N'.a N'.n N'.c, .slice O'.a O'.n O'.c] 29) = W0 := ⟨_, rfl⟩
  have hb : Below w.heap.size w W0 := eW ▸ below_new (below_new (Below.refl _ w) _) _
  have qa : Blk 29 W0 w.heap.size #[.int .i64 d, .int .i64 h, .int .i64 l, .int .i64 v, .int .i64 u, .int .i64 x, .int .i64 t, .int .i64 n, .slice E.a E.n E.c, .slice La ml Lc, .slice N.a N.n N.c, .slice O.a O.n O.c] := eW ▸ (Blk.new 29 w _).kept (below_new (Below.refl _ _) _)
  have qb : Blk 29 W0 (w.heap.size + 1) #[.int .i64 d, .int .i64 h, .int .i64 l, .int .i64 v, .int .i64 u, .int .i64 x, .int .i64 t, .int .i64 n, .slice E'.a E'.n E'.c, .slice La' ml Lc', .slice N'.a N'.n N'.c, .slice O'.a O'.n O'.c] := eW ▸ Blk.new_at 29 (w.alloc _) _ _ (by simp)
  replace hA := hA.below hb
  replace hB := hB.below hb
  have EW := hidden_ eW
  have HA := hidden_ hA
  have HB := hidden_ hB
  have QA := hidden_ qa
  have QB := hidden_ qb
  obtain ⟨a0, a1, a2, a3, a4, a5, a6, a7, a8, a9, a10, a11⟩ := qa.c12
  obtain ⟨b0, b1, b2, b3, b4, b5, b6, b7, b8, b9, b10, b11⟩ := qb.c12
  have neq := cfg_neq d h l v u x t n
  have ke : Hid (∀ W, (∃ m, W = W0.drewN m) → Calls Try.prog 18 #[.slice E.a E.n E.c, .slice E'.a E'.n E'.c] W fun e w' => e = .returned (.bool true) ∧ ∃ m, w' = W.drewN m) := fun W hW => (drew_is hW hA.e).same (drew_is hW hB.e) _ _
  have kn : Hid (∀ W, (∃ m, W = W0.drewN m) → Calls Try.prog 18 #[.slice N.a N.n N.c, .slice N'.a N'.n N'.c] W fun e w' => e = .returned (.bool true) ∧ ∃ m, w' = W.drewN m) := fun W hW => (drew_is hW hA.nm).same (drew_is hW hB.nm) _ _
  have ko : Hid (∀ W, (∃ m, W = W0.drewN m) → Calls Try.prog 18 #[.slice O.a O.n O.c, .slice O'.a O'.n O'.c] W fun e w' => e = .returned (.bool true) ∧ ∃ m, w' = W.drewN m) := fun W hW => (drew_is hW hA.o).same (drew_is hW hB.o) _ _
  have HW : Hid (∃ m, W0 = W0.drewN m) := ⟨0, rfl⟩
  have HL := hidden_ (And.intro e1 e2)
  have HM := hidden_ hml
  have HU := hidden_ hun
  have HBW := hidden_ hb
  clear eW hA hB qa qb e1 e2 hml hun hb
  go_enter Try.func21, Try.ntmps21
  go_wp2_with fail
  rw [EW.out]
  clear EW
  go_wp2_with (first
    | (go_at_call_of 18 E; refine (ke.out _ HW.out).mono ?_; rintro e W5 ⟨rfl, h5⟩; replace HW := hidden_ (drew_then HW.out h5); clear h5 ke a0 a1 a2 a3 a4 a5 a6 a7 a8 a9 a10 a11 b0 b1 b2 b3 b4 b5 b6 b7 b8 b9 b10 b11; obtain ⟨a0, a1, a2, a3, a4, a5, a6, a7, a8, a9, a10, a11⟩ := (drew_blk HW.out QA.out).c12; obtain ⟨b0, b1, b2, b3, b4, b5, b6, b7, b8, b9, b10, b11⟩ := (drew_blk HW.out QB.out).c12)
    | (go_at_call 18; refine (kn.out _ HW.out).mono ?_; rintro e W5 ⟨rfl, h5⟩; replace HW := hidden_ (drew_then HW.out h5); clear h5 kn a0 a1 a2 a3 a4 a5 a6 a7 a8 a9 a10 a11 b0 b1 b2 b3 b4 b5 b6 b7 b8 b9 b10 b11; obtain ⟨a0, a1, a2, a3, a4, a5, a6, a7, a8, a9, a10, a11⟩ := (drew_blk HW.out QA.out).c12; obtain ⟨b0, b1, b2, b3, b4, b5, b6, b7, b8, b9, b10, b11⟩ := (drew_blk HW.out QB.out).c12)
    | (go_at_call 18; refine (ko.out _ HW.out).mono ?_; rintro e W5 ⟨rfl, h5⟩; replace HW := hidden_ (drew_then HW.out h5); clear h5 ko a0 a1 a2 a3 a4 a5 a6 a7 a8 a9 a10 a11 b0 b1 b2 b3 b4 b5 b6 b7 b8 b9 b10 b11; obtain ⟨a0, a1, a2, a3, a4, a5, a6, a7, a8, a9, a10, a11⟩ := (drew_blk HW.out QA.out).c12; obtain ⟨b0, b1, b2, b3, b4, b5, b6, b7, b8, b9, b10, b11⟩ := (drew_blk HW.out QB.out).c12))
  clear a0 a1 a2 a3 a4 a5 a6 a7 a8 a9 a10 a11 b0 b1 b2 b3 b4 b5 b6 b7 b8 b9 b10 b11 neq
  go_loopw [5] (fun i wr => ∃ k : Nat, k ≤ ml ∧ i = .int .i64 k ∧ Below W0.heap.size W0 wr) (fun i _ => ml - (intOf i).toNat)
  case atStart => exact ⟨0, Nat.zero_le _, rfl, below_drew (Below.refl _ _) HW.out⟩
  case round =>
    clear HW
    obtain ⟨k, hk, rfl, hbr⟩ := hrel
    obtain ⟨a0, a1, a2, a3, a4, a5, a6, a7, a8, a9, a10, a11⟩ := (QA.out.kept hbr).c12
    obtain ⟨b0, b1, b2, b3, b4, b5, b6, b7, b8, b9, b10, b11⟩ := (QB.out.kept hbr).c12
    by_cases hlt : k < ml
    · have hMa := HA.out.below hbr
      have hMb := HB.out.below hbr
      have hkm : k < m.ln := by rw [HM.out]; exact hlt
      obtain ⟨x0, hx0⟩ := hMa.some_ (by omega)
      obtain ⟨y0, hy0⟩ := hMb.some_ (by omega)
      have la := hMa.lay k hkm
      have lb := hMb.lay k hkm
      obtain ⟨P, eP, p0, p1, p2, p3, p4, p5, p6, p7, p8⟩ := at_nine (fun j hj => hMa.cell x0 hx0 k hkm j hj)
      obtain ⟨R, eR, r0, r1, r2, r3, r4, r5, r6, r7, r8⟩ := at_nine (fun j hj => hMb.cell y0 hy0 k hkm j hj)
      obtain rfl : La = some x0 := HL.out.1.symm.trans hx0
      obtain rfl : La' = some y0 := HL.out.2.symm.trans hy0
      rw [la.u.len] at p7
      rw [la.d.len] at p8
      rw [lb.u.len] at r7
      rw [lb.d.len] at r8
      have hun := HU.out k hlt
      have k46 : ∀ d' os, Calls Try.prog 46 #[.agg #[.slice (Y k 0).a (Y k 0).n (Y k 0).c, .slice (Y k 1).a (Y k 1).n (Y k 1).c, .slice (Y k 2).a (Y k 2).n (Y k 2).c, .slice (Y k 3).a (Y k 3).n (Y k 3).c, .slice (Y k 4).a (Y k 4).n (Y k 4).c, .slice (Y k 5).a (Y k 5).n (Y k 5).c, .slice (Y k 6).a (Y k 6).n (Y k 6).c, .slice (Y k 7).a (m.un k) (Y k 7).c, .slice (Y k 8).a (m.dn k) (Y k 8).c], .agg #[.slice (Y' k 0).a (Y' k 0).n (Y' k 0).c, .slice (Y' k 1).a (Y' k 1).n (Y' k 1).c, .slice (Y' k 2).a (Y' k 2).n (Y' k 2).c, .slice (Y' k 3).a (Y' k 3).n (Y' k 3).c, .slice (Y' k 4).a (Y' k 4).n (Y' k 4).c, .slice (Y' k 5).a (Y' k 5).n (Y' k 5).c, .slice (Y' k 6).a (Y' k 6).n (Y' k 6).c, .slice (Y' k 7).a (m.un k) (Y' k 7).c, .slice (Y' k 8).a (m.dn k) (Y' k 8).c]] (grow (redrawn wr d') os) fun e w'' => e = .returned (.bool true) ∧ ∃ p : Regrown, w'' = grow (redrawn wr p.d) p.os := fun d' os =>
        Calls.regrown_of (sameLayer_walk _ _ _ _ _ _ _ _ _ _ _ _ (la.below (below_regrown wr d' os)) (lb.below (below_regrown wr d' os)) hun.1 hun.2)
      have hlt' : (k : Int) < (ml : Int) := by omega
      clear la lb hMa hMb hun HA HB
      go_wp2
      replace a9 := cell_regrown a9
      replace b9 := cell_regrown b9
      replace p0 := cell_regrown p0
      replace p1 := cell_regrown p1
      replace p2 := cell_regrown p2
      replace p3 := cell_regrown p3
      replace p4 := cell_regrown p4
      replace p5 := cell_regrown p5
      replace p6 := cell_regrown p6
      replace p7 := cell_regrown p7
      replace p8 := cell_regrown p8
      replace r0 := cell_regrown r0
      replace r1 := cell_regrown r1
      replace r2 := cell_regrown r2
      replace r3 := cell_regrown r3
      replace r4 := cell_regrown r4
      replace r5 := cell_regrown r5
      replace r6 := cell_regrown r6
      replace r7 := cell_regrown r7
      replace r8 := cell_regrown r8
      refine wp_region_quiet_below (by kernel_rfl) (by kernel_rfl) ?_
      repeat (go_big_quiet_step (first | (go_at_call 46; exact k46 _ _)))
      refine wpQuiet_nil ?_
      intro _ hw'
      obtain ⟨⟨dq, osq⟩, hw''⟩ := hw'
      subst hw''
      have hbq := below_then hbr (below_regrown wr dq osq)
      clear k46 a0 a1 a2 a3 a4 a5 a6 a7 a8 a9 a10 a11 b0 b1 b2 b3 b4 b5 b6 b7 b8 b9 b10 b11 p0 p1 p2 p3 p4 p5 p6 p7 p8 r0 r1 r2 r3 r4 r5 r6 r7 r8
      go_wp2
      go_roundw
      case rel => exact ⟨k + 1, by omega, by go_num, hbq⟩
      case measure => simp [intOf]; omega
    · have e : k = ml := by omega
      subst e
      go_wp2
      go_ret
      exact ⟨rfl, below_then HBW.out hbr⟩

/-- two models of one configuration that hold the same are the same -/
theorem sameM_call (d h l v u x t n : Int) (E L N O E' L' N' O' : SL) (Y U D Y' U' D' : Nat → Nat → SL) (m : ModV) (w : World) (hA : ModAt w E L N O Y U D m) (hB : ModAt w E' L' N' O' Y' U' D' m) (hu : m.ln ≤ 4611686018427387904)
    (hun : ∀ i, i < m.ln → m.un i ≤ 9223372036854775807 ∧ m.dn i ≤ 9223372036854775807) :
    Calls Try.prog 21 #[.agg #[.int .i64 d, .int .i64 h, .int .i64 l, .int .i64 v, .int .i64 u, .int .i64 x, .int .i64 t, .int .i64 n, .slice E.a E.n E.c, .slice L.a L.n L.c, .slice N.a N.n N.c, .slice O.a O.n O.c], .agg #[.int .i64 d, .int .i64 h, .int .i64 l, .int .i64 v, .int .i64 u, .int .i64 x, .int .i64 t, .int .i64 n, .slice E'.a E'.n E'.c, .slice L'.a L'.n L'.c, .slice N'.a N'.n N'.c, .slice O'.a O'.n O'.c]] w fun e w' => e = .returned (.bool true) ∧ Below w.heap.size w w' := by
  have := same_walk d h l v u x t n E N O E' N' O' L.a L'.a m.ln L.c L'.c L L' Y U D Y' U' D' m w hA hB rfl rfl rfl hu hun
  rw [hA.len, hB.len]
  exact this
end

end Go.Proofs.Ytjbeloljbjfibaa
