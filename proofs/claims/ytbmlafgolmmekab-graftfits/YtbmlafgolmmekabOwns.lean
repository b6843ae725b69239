/- The copy that shares nothing: Own of any adapter. -/
import Derived.Test.YtbmlafgolmmekabRows
import Derived.Test.YtbmlafgolmmekabView
import Derived.Test.YtbmlafgolmmekabOwn
import Derived.Test.YtbmlafgolmmekabCfg
import Derived.Test.YtbmlafgolmmekabCfgs
import Derived.Test.YtbmlafgolmmekabCfgRef
import Derived.Test.YtbmlafgolmmekabHeld
import Derived.Test.YtbmlafgolmmekabReader
import Derived.Test.YtbmlafgolmmekabSls
import Derived.Test.YtbmlafgolmmekabSteps
import Derived.Test.YtbmlafgolmmekabInv
import Derived.Test.YtbmlafgolmmekabTyped
import Derived.Test.YtbmlafgolmmekabAds
import Derived.Test.YtbmlafgolmmekabRanges
import Derived.Test.YtbmlafgolmmekabPush
import Derived.Test.YtbmlafgolmmekabOwnReg
import Derived.WalkKit
import Derived.ProofKit
import Derived.OpenShut
import Derived.Below
import Derived.WalkLawsBesides
import Derived.Deep.QuietTactic
import Derived.BigQuiet
import Derived.Lib.QuietBelow
import Derived.Deep.RegionHeld3
import Derived.Orders
import Derived.ArgAppend
import Derived.Maps.AppendAt
namespace Go.Proofs.Ytbmlafgolmmekab
open Go.ChangeShapes Go.WideShapes Go.ChangeAt Go.RowKit
open Go.Sort hiding Below
set_option linter.unusedVariables false


/-- lists that are not longer than memory -/
structure FitsA (m : AdV) : Prop where
  ln : m.ln ≤ 20
  f : ∀ i, i < m.ln → ∀ j, j < 4 → (m.f i j).length ≤ 140737488351232

set_option maxHeartbeats 8000000 in
set_option maxRecDepth 20000 in
theorem own_walk (R S : Int) (La : Option Addr) (ml Lc : Nat) (L : SL) (Y : Nat → Nat → SL) (m : AdV) (w : World) (hM : AdAt w L Y m) (hF : FitsA m) (e1 : L.a = La) (hml : m.ln = ml) :
    Calls Try.prog 8 #[.agg #[.int .i64 R, .int .i64 S, .slice La ml Lc]] w fun e w' => ∃ (L' : SL) (Y' : Nat → Nat → SL), e = .returned (.agg #[.int .i64 R, .int .i64 S, .slice L'.a L'.n L'.c]) ∧ NewA w.heap.size w' L' Y' m ∧ Below w.heap.size w w' := by
  obtain ⟨W0, eW⟩ : ∃ W0, (w.alloc (.cells #[.int .i64 R, .int .i64 S, .slice La ml Lc] 24)).alloc (.cells #[.int .i64 0, .int .i64 0, nilS] 24) = W0 := ⟨_, rfl⟩
  have hb : Below w.heap.size w W0 := eW ▸ below_new (below_new (Below.refl _ w) _) _
  have qa : Blk 24 W0 w.heap.size #[.int .i64 R, .int .i64 S, .slice La ml Lc] := eW ▸ (Blk.new 24 w _).kept (below_new (Below.refl _ _) _)
  have qb : Blk 24 W0 (w.heap.size + 1) #[.int .i64 0, .int .i64 0, nilS] := eW ▸ Blk.new_at 24 (w.alloc _) _ _ (by simp)
  have HM := hidden_ hM
  have HF := hidden_ hF
  have HL := hidden_ (And.intro e1 hml)
  have Hml : ml ≤ 20 := by have := hF.ln; omega
  have HV := hidden_ (And.intro hb (And.intro qa qb))
  have EW := hidden_ eW
  clear hM hF e1 hml hb qa qb eW
  go_enter Try.func8, Try.ntmps8
  go_wp2
  rw [EW.out]
  go_loopw [3, 4, 5] (fun v3 i _ wr => ∃ k : Nat, k ≤ ml ∧ i = .int .i64 k ∧ Below W0.heap.size W0 wr ∧ ∃ Y' : Nat → Nat → SL, TA W0.heap.size wr v3 k Y' m.f) (fun _ i _ _ => ml - (intOf i).toNat)
  case atStart => exact ⟨0, Nat.zero_le _, rfl, Below.refl _ _, fun _ _ => SL.nought, TA.nil _ _ _ _⟩
  case round =>
    obtain ⟨k, hk, rfl, hbr, Y', tL⟩ := hrel
    obtain ⟨WR, eWR⟩ : ∃ WR, WR = wr := ⟨_, rfl⟩
    subst eWR
    obtain ⟨bV, qa, qb⟩ := HV.out
    have hbw := below_then bV hbr
    obtain ⟨a0, a1, a2⟩ := (qa.kept hbr).c3
    by_cases hlt : k < ml
    · have hMr := HM.out.below hbw
      have hkm : k < m.ln := by rw [HL.out.2]; exact hlt
      obtain ⟨x0, hx0⟩ := hMr.some_ (by omega)
      obtain rfl : La = some x0 := HL.out.1.symm.trans hx0
      have la := hMr.lay k hkm
      obtain ⟨P, eP, p0, p1, p2, p3⟩ := at_four (fun j hj => hMr.cell x0 hx0 k hkm j hj)
      have hlt' : (k : Int) < (ml : Int) := by omega
      have srs := hbr.size
      have HB := hidden_ (And.intro hbw hbr)
      have HLA := hidden_ la
      have HT := hidden_ tL
      have HS := hidden_ srs
      clear hMr hbw hbr la tL bV qa qb srs
      go_wp2
      have q5 := Blk.new 47 WR #[.slice (Y k 0).a (Y k 0).n (Y k 0).c, .slice (Y k 1).a (Y k 1).n (Y k 1).c, .slice (Y k 2).a (Y k 2).n (Y k 2).c, .slice (Y k 3).a (Y k 3).n (Y k 3).c]
      obtain ⟨W1, e1⟩ : ∃ W1, WR.alloc (.cells #[.slice (Y k 0).a (Y k 0).n (Y k 0).c, .slice (Y k 1).a (Y k 1).n (Y k 1).c, .slice (Y k 2).a (Y k 2).n (Y k 2).c, .slice (Y k 3).a (Y k 3).n (Y k 3).c] 47) = W1 := ⟨_, rfl⟩
      have bW1 : Below WR.heap.size WR W1 := e1 ▸ below_new (Below.refl _ _) _
      rw [e1] at q5 ⊢
      clear e1 p0 p1 p2 p3 a0 a1 a2
      refine own_region W0.heap.size WR.heap.size k _ Y' m.f (Y k) (by kernel_rfl) rfl ⟨_, rfl, rfl, rfl, rfl, by kernel_rfl⟩ (fun j hj => by rcases (show j = 0 ∨ j = 1 ∨ j = 2 ∨ j = 3 by omega) with rfl | rfl | rfl | rfl <;> exact ⟨⟨_, rfl, rfl, rfl, rfl, by kernel_rfl⟩, ⟨_, rfl, rfl, rfl, rfl, by kernel_rfl⟩, ⟨_, rfl, rfl, rfl, rfl, by kernel_rfl⟩, ⟨_, rfl, rfl, rfl, rfl, by kernel_rfl⟩⟩)
        ⟨_, rfl, rfl, rfl, rfl, by kernel_rfl⟩ ⟨_, rfl, rfl, rfl, rfl, by kernel_rfl⟩ ⟨_, rfl, rfl, rfl, rfl, by kernel_rfl⟩ ⟨_, rfl, rfl, rfl, rfl, by kernel_rfl⟩ rfl rfl (Nat.le_of_ble_eq_true rfl) (Nat.le_trans HS.out bW1.size) (HT.out.below bW1) q5 (fun j hj => ⟨(HLA.out j hj).below bW1, by have := HF.out.f k hkm j hj; omega⟩) (by omega) ?_
      intro a W2 s hs hd hkp hbo hta
      have bW2 : Below W0.heap.size W0 W2 := (below_then HB.out.2 bW1).trans hbo
      have ep := frame_puts [3, 18, 19, 20, 21, 22, 23, 24, 25, 26, 27, 28, 29, 30, 31, 32, 33, 34, 35, 36, 37] hs hd (fun s h => hkp s (by simp at h; omega))
      simp only [List.foldl] at ep
      clear hs hd hkp
      generalize a.tmps.getD 3 undef = g3 at ep hta
      generalize a.tmps.getD 18 undef = g18 at ep
      generalize a.tmps.getD 19 undef = g19 at ep
      generalize a.tmps.getD 20 undef = g20 at ep
      generalize a.tmps.getD 21 undef = g21 at ep
      generalize a.tmps.getD 22 undef = g22 at ep
      generalize a.tmps.getD 23 undef = g23 at ep
      generalize a.tmps.getD 24 undef = g24 at ep
      generalize a.tmps.getD 25 undef = g25 at ep
      generalize a.tmps.getD 26 undef = g26 at ep
      generalize a.tmps.getD 27 undef = g27 at ep
      generalize a.tmps.getD 28 undef = g28 at ep
      generalize a.tmps.getD 29 undef = g29 at ep
      generalize a.tmps.getD 30 undef = g30 at ep
      generalize a.tmps.getD 31 undef = g31 at ep
      generalize a.tmps.getD 32 undef = g32 at ep
      generalize a.tmps.getD 33 undef = g33 at ep
      generalize a.tmps.getD 34 undef = g34 at ep
      generalize a.tmps.getD 35 undef = g35 at ep
      generalize a.tmps.getD 36 undef = g36 at ep
      generalize a.tmps.getD 37 undef = g37 at ep
      simp only [Act.put, List.setIfInBounds_toArray, List.set_cons_succ, List.set_cons_zero] at ep
      subst ep
      clear q5 bW1 hbo
      go_wp2
      go_roundw
      case rel => exact ⟨k + 1, by omega, by go_num, bW2, _, hta⟩
      case measure => simp [intOf]; omega
    · have e : k = ml := by omega
      subst e
      have el : m.ln = k := HL.out.2
      obtain ⟨L', rfl, nw⟩ := TA.new (m := m) (by rw [el]; exact tL)
      have qb' := qb.kept hbr
      have qa' := qa.kept hbr
      have lt1 := qa.lt
      have lt2 := qb.lt
      obtain ⟨b0, b1, b2⟩ := qb'.c3
      obtain ⟨z0, z1, z2⟩ := qa'.o3
      -- the layers are laid into the adapter, and that into the result
      have qa2 : Blk 24 (WR.setCell ⟨w.heap.size, 2, none⟩ (.slice L'.a L'.n L'.c)) w.heap.size #[.int .i64 R, .int .i64 S, .slice L'.a L'.n L'.c] := set_blk qa' 2 _ rfl
      have qb2 : Blk 24 (WR.setCell ⟨w.heap.size, 2, none⟩ (.slice L'.a L'.n L'.c)) (w.heap.size + 1) #[.int .i64 0, .int .i64 0, nilS] := qb'.other _ (by simp)
      have on2 := Only.set w.heap.size 2 WR (.slice L'.a L'.n L'.c)
      obtain ⟨V, eV⟩ : ∃ V, WR.setCell ⟨w.heap.size, 2, none⟩ (.slice L'.a L'.n L'.c) = V := ⟨_, rfl⟩
      rw [eV] at qa2 qb2 on2
      have bV2 : Below w.heap.size w V := Only.below hbw (Nat.le_refl _) hbw.size on2
      obtain ⟨d0, d1, d2⟩ := qa2.c3
      obtain ⟨f0, f1, f2⟩ := qb2.c3
      obtain ⟨o0, o1, o2⟩ := qb2.o3
      clear tL b0 b1 b2
      unfold SL.v
      go_wp2
      obtain ⟨W6, eW6, q6, only, hz⟩ := set3 qb2 (.int .i64 R) (.int .i64 S) (.slice L'.a L'.n L'.c)
      rw [eW6]
      refine bodyPost_ret (v := .agg #[.int .i64 R, .int .i64 S, .slice L'.a L'.n L'.c]) ?_ rfl ⟨L', Y', rfl, ((nw.only on2 lt1).only only lt2).le (by omega), Only.below bV2 (Nat.le_succ _) bV2.size only⟩
      obtain ⟨y0, y1, y2⟩ := q6.c3
      simp [results, Try.results8, go_sem, y0, y1, y2]

theorem own_call (R S : Int) (L : SL) (Y : Nat → Nat → SL) (m : AdV) (w : World) (hM : AdAt w L Y m) (hF : FitsA m) :
    Calls Try.prog 8 #[.agg #[.int .i64 R, .int .i64 S, .slice L.a L.n L.c]] w fun e w' => ∃ (L' : SL) (Y' : Nat → Nat → SL), e = .returned (.agg #[.int .i64 R, .int .i64 S, .slice L'.a L'.n L'.c]) ∧ NewA w.heap.size w' L' Y' m ∧ Below w.heap.size w w' :=
  own_walk R S L.a L.n L.c L Y m w hM hF rfl hM.len.symm

end Go.Proofs.Ytbmlafgolmmekab
