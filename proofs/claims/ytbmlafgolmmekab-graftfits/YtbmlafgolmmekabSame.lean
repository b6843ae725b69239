/- The document's Same of two adapters that hold the same. -/
import Derived.Test.YtbmlafgolmmekabRows
import Derived.Test.YtbmlafgolmmekabView
import Derived.Test.YtbmlafgolmmekabOwn
import Derived.Test.YtbmlafgolmmekabCfg
import Derived.Test.YtbmlafgolmmekabCfgs
import Derived.Test.YtbmlafgolmmekabCfgRef
import Derived.Test.YtbmlafgolmmekabHeld
import Derived.Test.YtbmlafgolmmekabReader
import Derived.Test.YtbmlafgolmmekabSls
import Derived.Test.YtbmlafgolmmekabSteps
import Derived.Test.YtbmlafgolmmekabInv
import Derived.Test.YtbmlafgolmmekabTyped
import Derived.Test.YtbmlafgolmmekabAds
import Derived.Test.YtbmlafgolmmekabRanges
import Derived.Test.YtbmlafgolmmekabRefWts
import Derived.Test.YtbmlafgolmmekabPush
import Derived.Test.YtbmlafgolmmekabPair
import Derived.WalkKit
import Derived.ProofKit
import Derived.OpenShut
import Derived.Below
import Derived.WalkLawsBesides
import Derived.Deep.QuietTactic
import Derived.BigQuiet
import Derived.Lib.QuietBelow
import Derived.Deep.RegionHeld3
import Derived.Orders
import Derived.ArgAppend
import Derived.Maps.AppendAt
namespace Go.Proofs.Ytbmlafgolmmekab
open Go.ChangeShapes Go.WideShapes Go.ChangeAt Go.RowKit
open Go.Sort hiding Below
set_option linter.unusedVariables false


set_option maxHeartbeats 8000000 in
set_option maxRecDepth 20000 in
theorem same_walk (R S : Int) (La La' : Option Addr) (ml Lc Lc' : Nat) (L L' : SL) (Y Y' : Nat → Nat → SL) (m : AdV) (w : World) (hA : AdAt w L Y m) (hB : AdAt w L' Y' m) (e1 : L.a = La) (e2 : L'.a = La') (hml : m.ln = ml) (hu : ml ≤ 4611686018427387904) :
    Calls Try.prog 11 #[.agg #[.int .i64 R, .int .i64 S, .slice La ml Lc], .agg #[.int .i64 R, .int .i64 S, .slice La' ml Lc']] w fun e w' => e = .returned (.bool true) ∧ Below w.heap.size w w' := by
  have hb := below_new (below_new (Below.refl w.heap.size w) (.cells #[.int .i64 R, .int .i64 S, .slice La ml Lc] 24)) (.cells #[.int .i64 R, .int .i64 S, .slice La' ml Lc'] 24)
  have qa : Blk 24 ((w.alloc (.cells #[.int .i64 R, .int .i64 S, .slice La ml Lc] 24)).alloc (.cells #[.int .i64 R, .int .i64 S, .slice La' ml Lc'] 24)) w.heap.size #[.int .i64 R, .int .i64 S, .slice La ml Lc] := (Blk.new 24 w _).kept (below_new (Below.refl _ _) _)
  have qb : Blk 24 ((w.alloc (.cells #[.int .i64 R, .int .i64 S, .slice La ml Lc] 24)).alloc (.cells #[.int .i64 R, .int .i64 S, .slice La' ml Lc'] 24)) (w.heap.size + 1) #[.int .i64 R, .int .i64 S, .slice La' ml Lc'] := Blk.new_at 24 (w.alloc _) _ _ (by simp)
  obtain ⟨a0, a1, a2⟩ := qa.c3
  obtain ⟨b0, b1, b2⟩ := qb.c3
  have HA := hidden_ hA
  have HB := hidden_ hB
  have HL := hidden_ (And.intro e1 (And.intro e2 hml))
  clear hA hB e1 e2 hml
  go_enter Try.func11, Try.ntmps11
  go_wp2
  have HV := hidden_ (And.intro hb (And.intro qa qb))
  clear hb qa qb a0 a1 a2 b0 b1 b2
  go_loopw [5, 6, 7] (fun i _ _ wr => ∃ k : Nat, k ≤ ml ∧ i = .int .i64 k ∧ Below w.heap.size w wr ∧ Blk 24 wr w.heap.size #[.int .i64 R, .int .i64 S, .slice La ml Lc] ∧ Blk 24 wr (w.heap.size + 1) #[.int .i64 R, .int .i64 S, .slice La' ml Lc']) (fun i _ _ _ => ml - (intOf i).toNat)
  case atStart => exact ⟨0, Nat.zero_le _, rfl, HV.out.1, HV.out.2.1, HV.out.2.2⟩
  case round =>
    clear HV
    obtain ⟨k, hk, rfl, hb, qa, qb⟩ := hrel
    obtain ⟨a0, a1, a2⟩ := qa.c3
    obtain ⟨b0, b1, b2⟩ := qb.c3
    by_cases hlt : k < ml
    · have hlt' : (k : Int) < (ml : Int) := by omega
      have hkm : k < m.ln := by rw [HL.out.2.2]; exact hlt
      have mA := HA.out.below hb
      have mB := HB.out.below hb
      obtain ⟨x0, hx0⟩ := mA.some_ (by omega)
      obtain rfl : La = some x0 := HL.out.1.symm.trans hx0
      obtain ⟨x1, hx1⟩ := mB.some_ (by omega)
      obtain rfl : La' = some x1 := HL.out.2.1.symm.trans hx1
      have pa := mA.cell x0 hx0 k hkm
      have pb := mB.cell x1 hx1 k hkm
      have HP := hidden_ (And.intro pa pb)
      have SM : Hid (∀ j, j < 4 → ∀ W, Below w.heap.size w W → Calls Try.prog 15 #[.slice (Y k j).a (Y k j).n (Y k j).c, .slice (Y' k j).a (Y' k j).n (Y' k j).c] W fun e w' => e = .returned (.bool true) ∧ ∃ m, w' = W.drewN m) := fun j hj W hW =>
        same_call _ _ _ _ _ _ _ W ((HA.out.below hW).lay k hkm j hj).reads ((HB.out.below hW).lay k hkm j hj).reads
      have HQ := hidden_ (And.intro hb (And.intro qa qb))
      clear mA mB pa pb hb qa qb
      go_wp2
      refine pair_region w.heap.size (w.heap.size + 1) k ml Lc Lc' x0 x1 (Y k) (Y' k) (by kernel_rfl) rfl ⟨_, rfl, rfl, rfl, rfl, by kernel_rfl⟩ ⟨_, rfl, rfl, rfl, rfl, by kernel_rfl⟩ ⟨_, rfl, rfl, rfl, rfl, by kernel_rfl⟩ ⟨_, rfl, rfl, rfl, rfl, by kernel_rfl⟩ ⟨_, rfl, rfl, rfl, rfl, by kernel_rfl⟩ ⟨_, rfl, rfl, rfl, rfl, by kernel_rfl⟩ ⟨_, rfl, rfl, rfl, rfl, by kernel_rfl⟩ ⟨_, rfl, rfl, rfl, rfl, by kernel_rfl⟩ ⟨_, rfl, rfl, rfl, rfl, by kernel_rfl⟩ ⟨_, rfl, rfl, rfl, rfl, by kernel_rfl⟩ ⟨_, rfl, rfl, rfl, rfl, by kernel_rfl⟩ ⟨_, rfl, rfl, rfl, rfl, by kernel_rfl⟩ ⟨_, rfl, rfl, rfl, rfl, by kernel_rfl⟩ ⟨_, rfl, rfl, rfl, rfl, by kernel_rfl⟩ rfl rfl rfl (Nat.le_of_ble_eq_true rfl) hlt hu a2 b2 HP.out.1 HP.out.2 ?_
      intro a W6 G H hs hd hkp hb5 eG eH qG qH
      have hb6 := below_then HQ.out.1 hb5
      have qa := HQ.out.2.1.kept hb5
      have qb := HQ.out.2.2.kept hb5
      have ep := frame_puts [6, 7, 36, 37, 38, 39, 40, 41, 42, 43, 44, 45] hs hd (fun s h => hkp s (by simp at h; omega))
      simp only [List.foldl] at ep
      rw [eG, eH] at ep
      clear hs hd hkp eG eH a0 a1 a2 b0 b1 b2 hb5
      generalize a.tmps.getD 36 undef = g36 at ep
      generalize a.tmps.getD 37 undef = g37 at ep
      generalize a.tmps.getD 38 undef = g38 at ep
      generalize a.tmps.getD 39 undef = g39 at ep
      generalize a.tmps.getD 40 undef = g40 at ep
      generalize a.tmps.getD 41 undef = g41 at ep
      generalize a.tmps.getD 42 undef = g42 at ep
      generalize a.tmps.getD 43 undef = g43 at ep
      generalize a.tmps.getD 44 undef = g44 at ep
      generalize a.tmps.getD 45 undef = g45 at ep
      simp only [Act.put, List.setIfInBounds_toArray, List.set_cons_succ, List.set_cons_zero] at ep
      subst ep
      have S0 := hidden_ (SM.out 0 (by decide))
      have S1 := hidden_ (SM.out 1 (by decide))
      have S2 := hidden_ (SM.out 2 (by decide))
      have S3 := hidden_ (SM.out 3 (by decide))
      obtain ⟨y0, y1, y2, y3⟩ := qG.c4
      obtain ⟨z0, z1, z2, z3⟩ := qH.c4
      go_wp2_with (first
        | (go_at_call 15; refine (S0.out _ hb6).mono ?_; rintro e W7 ⟨rfl, hd⟩; clear S0; replace qG := qG.kept (below_drew (Below.refl _ _) hd); replace qa := qa.kept (below_drew (Below.refl _ _) hd); replace qb := qb.kept (below_drew (Below.refl _ _) hd); replace qH := qH.kept (below_drew (Below.refl _ _) hd); replace hb6 := below_drew hb6 hd; clear hd y0 y1 y2 y3 z0 z1 z2 z3; obtain ⟨y0, y1, y2, y3⟩ := qG.c4; obtain ⟨z0, z1, z2, z3⟩ := qH.c4)
        | (go_at_call 15; refine (S1.out _ hb6).mono ?_; rintro e W8 ⟨rfl, hd⟩; clear S1; replace qG := qG.kept (below_drew (Below.refl _ _) hd); replace qa := qa.kept (below_drew (Below.refl _ _) hd); replace qb := qb.kept (below_drew (Below.refl _ _) hd); replace qH := qH.kept (below_drew (Below.refl _ _) hd); replace hb6 := below_drew hb6 hd; clear hd y0 y1 y2 y3 z0 z1 z2 z3; obtain ⟨y0, y1, y2, y3⟩ := qG.c4; obtain ⟨z0, z1, z2, z3⟩ := qH.c4)
        | (go_at_call 15; refine (S2.out _ hb6).mono ?_; rintro e W9 ⟨rfl, hd⟩; clear S2; replace qG := qG.kept (below_drew (Below.refl _ _) hd); replace qa := qa.kept (below_drew (Below.refl _ _) hd); replace qb := qb.kept (below_drew (Below.refl _ _) hd); replace qH := qH.kept (below_drew (Below.refl _ _) hd); replace hb6 := below_drew hb6 hd; clear hd y0 y1 y2 y3 z0 z1 z2 z3; obtain ⟨y0, y1, y2, y3⟩ := qG.c4; obtain ⟨z0, z1, z2, z3⟩ := qH.c4)
        | (go_at_call 15; refine (S3.out _ hb6).mono ?_; rintro e W10 ⟨rfl, hd⟩; clear S3; replace qG := qG.kept (below_drew (Below.refl _ _) hd); replace qa := qa.kept (below_drew (Below.refl _ _) hd); replace qb := qb.kept (below_drew (Below.refl _ _) hd); replace qH := qH.kept (below_drew (Below.refl _ _) hd); replace hb6 := below_drew hb6 hd; clear hd y0 y1 y2 y3 z0 z1 z2 z3; obtain ⟨y0, y1, y2, y3⟩ := qG.c4; obtain ⟨z0, z1, z2, z3⟩ := qH.c4))
      go_roundw
      case rel => exact ⟨k + 1, by omega, by go_num, hb6, qa, qb⟩
      case measure => simp [intOf]; omega
    · have e : k = ml := by omega
      subst e
      have nlt : ¬ (k : Int) < (k : Int) := by omega
      go_wp2
      go_ret
      exact ⟨rfl, hb⟩

theorem sameA_call (R S : Int) (L L' : SL) (Y Y' : Nat → Nat → SL) (m : AdV) (w : World) (hA : AdAt w L Y m) (hB : AdAt w L' Y' m) (hu : m.ln ≤ 4611686018427387904) :
    Calls Try.prog 11 #[.agg #[.int .i64 R, .int .i64 S, .slice L.a L.n L.c], .agg #[.int .i64 R, .int .i64 S, .slice L'.a L'.n L'.c]] w fun e w' => e = .returned (.bool true) ∧ Below w.heap.size w w' := by
  have := same_walk R S L.a L'.a m.ln L.c L'.c L L' Y Y' m w hA hB rfl rfl rfl hu
  rw [hA.len, hB.len]
  exact this

end Go.Proofs.Ytbmlafgolmmekab
