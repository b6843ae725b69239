/- The document's Flat of any adapter, given its Check. -/
import Derived.Test.YtbmlafgolmmekaaRows
import Derived.Test.YtbmlafgolmmekaaView
import Derived.Test.YtbmlafgolmmekaaOwn
import Derived.Test.YtbmlafgolmmekaaCfg
import Derived.Test.YtbmlafgolmmekaaCfgs
import Derived.Test.YtbmlafgolmmekaaCfgRef
import Derived.Test.YtbmlafgolmmekaaHeld
import Derived.Test.YtbmlafgolmmekaaReader
import Derived.Test.YtbmlafgolmmekaaSls
import Derived.Test.YtbmlafgolmmekaaSteps
import Derived.Test.YtbmlafgolmmekaaInv
import Derived.Test.YtbmlafgolmmekaaTyped
import Derived.Test.YtbmlafgolmmekaaAds
import Derived.Test.YtbmlafgolmmekaaRanges
import Derived.Test.YtbmlafgolmmekaaCheck
import Derived.Test.YtbmlafgolmmekaaPlan
import Derived.Test.YtbmlafgolmmekaaFlat
import Derived.WalkKit
import Derived.ProofKit
import Derived.OpenShut
import Derived.Below
import Derived.WalkLawsBesides
import Derived.Deep.QuietTactic
import Derived.BigQuiet
import Derived.Lib.QuietBelow
import Derived.Deep.RegionHeld3
namespace Go.Proofs.Ytbmlafgolmmekaa
open Go.ChangeShapes Go.WideShapes Go.ChangeAt Go.RowKit Go.Sort
set_option linter.unusedVariables false


set_option maxHeartbeats 4000000 in
set_option maxRecDepth 8000 in
theorem refFlat_yes (R S d h l v u x t n : Int) (x0 : Addr) (ml Lc : Nat) (L : SL) (Y : Nat → Nat → SL) (m : AdV) (w : World) (hM : AdAt w L Y m) (eA : L.a = some x0) (hml : m.ln = ml) (hl : ml ≤ 1000) (few : ∀ k, k ≤ 4 * ml → (flatTo (seqA m) k).length ≤ 1000000)
    (k12 : ∀ W, Below w.heap.size w W → Calls Try.prog 13 #[.agg #[.int .i64 R, .int .i64 S, .slice (some x0) ml Lc], .agg #[.int .i64 d, .int .i64 h, .int .i64 l, .int .i64 v, .int .i64 u, .int .i64 x, .int .i64 t, .int .i64 n]] W fun e w' => e = .returned (.int .i64 0) ∧ Below W.heap.size W w') :
    Calls Try.prog 16 #[.agg #[.int .i64 R, .int .i64 S, .slice (some x0) ml Lc], .agg #[.int .i64 d, .int .i64 h, .int .i64 l, .int .i64 v, .int .i64 u, .int .i64 x, .int .i64 t, .int .i64 n]] w fun e w' => ∃ s : SL, e = .returned (.slice s.a s.n s.c) ∧ IsS w' s (flatA m) ∧ Below w.heap.size w w' := by
  have hb := below_new (below_new (Below.refl w.heap.size w) (.cells #[.int .i64 R, .int .i64 S, .slice (some x0) ml Lc] 24)) (.cells #[.int .i64 d, .int .i64 h, .int .i64 l, .int .i64 v, .int .i64 u, .int .i64 x, .int .i64 t, .int .i64 n] 26)
  have qa : Blk 24 ((w.alloc (.cells #[.int .i64 R, .int .i64 S, .slice (some x0) ml Lc] 24)).alloc (.cells #[.int .i64 d, .int .i64 h, .int .i64 l, .int .i64 v, .int .i64 u, .int .i64 x, .int .i64 t, .int .i64 n] 26)) w.heap.size #[.int .i64 R, .int .i64 S, .slice (some x0) ml Lc] := (Blk.new 24 w _).kept (below_new (Below.refl _ _) _)
  have qc : Blk 26 ((w.alloc (.cells #[.int .i64 R, .int .i64 S, .slice (some x0) ml Lc] 24)).alloc (.cells #[.int .i64 d, .int .i64 h, .int .i64 l, .int .i64 v, .int .i64 u, .int .i64 x, .int .i64 t, .int .i64 n] 26)) (w.heap.size + 1) #[.int .i64 d, .int .i64 h, .int .i64 l, .int .i64 v, .int .i64 u, .int .i64 x, .int .i64 t, .int .i64 n] := Blk.new_at 26 (w.alloc _) _ _ (by simp)
  obtain ⟨a0, a1, a2⟩ := qa.c3
  obtain ⟨c0, c1, c2, c3, c4, c5, c6, c7⟩ := qc.cfg
  have HM := hidden_ hM
  have HL := hidden_ hml
  have HA := hidden_ eA
  have FEW := hidden_ few
  have WF := hidden_ (flatA_wf hM)
  clear hM hml eA few
  go_enter Try.func16, Try.ntmps16
  go_wp2_with (first | (go_at_call 13; refine (k12 _ hb).mono ?_; rintro e W1 ⟨rfl, h1⟩; replace qa := qa.kept h1; replace qc := qc.kept h1; replace hb := below_then hb h1; clear h1 a0 a1 a2 c0 c1 c2 c3 c4 c5 c6 c7; obtain ⟨a0, a1, a2⟩ := qa.c3; obtain ⟨c0, c1, c2, c3, c4, c5, c6, c7⟩ := qc.cfg))
  have hs1 := hb.size
  have HB := hidden_ (And.intro hb qa)
  clear hb qa qc a0 a1 a2 c0 c1 c2 c3 c4 c5 c6 c7 k12
  go_loopw [5, 6] (fun v5 i wr => ∃ k : Nat, k ≤ ml ∧ i = .int .i64 k ∧ Below W1.heap.size W1 wr ∧ OwnF W1.heap.size wr v5 (seqA m) (4 * k)) (fun _ i _ => ml - (intOf i).toNat)
  case atStart => exact ⟨0, Nat.zero_le _, rfl, Below.refl _ _, OwnF.nil _ _ _⟩
  case round =>
    obtain ⟨k, hk, rfl, hbr, ho⟩ := hrel
    by_cases hlt : k < ml
    · have hlt' : (k : Int) < (ml : Int) := by omega
      obtain ⟨a0, a1, a2⟩ := (HB.out.2.kept hbr).c3
      have hbw := below_then HB.out.1 hbr
      obtain ⟨P, eP, p0, p1, p2, p3⟩ := at_four (fun j hj => (HM.out.below hbw).cell x0 HA.out k (by rw [HL.out]; exact hlt) j hj)
      have LAY : Hid (∀ W, Below W1.heap.size W1 W → ∀ j, j < 4 → IsS W (Y k j) (seqA m (4 * k + j))) := fun W hW j hj => by
        rw [seqA_at m k j hj]
        exact (HM.out.below (below_then HB.out.1 hW)).lay k (by rw [HL.out]; exact hlt) j hj
      have qy := Blk.new 52 wr #[.slice (Y k 0).a (Y k 0).n (Y k 0).c, .slice (Y k 1).a (Y k 1).n (Y k 1).c, .slice (Y k 2).a (Y k 2).n (Y k 2).c, .slice (Y k 3).a (Y k 3).n (Y k 3).c]
      have b5 := below_new (Below.refl wr.heap.size wr) (.cells #[.slice (Y k 0).a (Y k 0).n (Y k 0).c, .slice (Y k 1).a (Y k 1).n (Y k 1).c, .slice (Y k 2).a (Y k 2).n (Y k 2).c, .slice (Y k 3).a (Y k 3).n (Y k 3).c] 52)
      obtain ⟨W5, e5⟩ : ∃ W5, wr.alloc (.cells #[.slice (Y k 0).a (Y k 0).n (Y k 0).c, .slice (Y k 1).a (Y k 1).n (Y k 1).c, .slice (Y k 2).a (Y k 2).n (Y k 2).c, .slice (Y k 3).a (Y k 3).n (Y k 3).c] 52) = W5 := ⟨_, rfl⟩
      rw [e5] at qy b5
      have ho2 := ho.below b5
      have hb2 := below_then hbr b5
      have HSZ := hidden_ (Nat.le_refl W1.heap.size)
      have hsz := hb2.size
      clear ho b5 hbw hbr
      have ho := ho2
      clear ho2
      obtain ⟨y0, y1, y2, y3⟩ := qy.c4
      go_wp2_with (first
        | (at_builtin; refine wpList_flat rfl (.tmp 24) (.tmp 26) rfl W1.heap.size (4 * k + 0) _ (seqA m) (Y k 0) rfl rfl ho (LAY.out _ hb2 0 (by decide)) (FEW.out (4 * k + 0 + 1) (by omega)) hb2.size ?_; intro v0 w0 hq0 _ k52 ho'; replace qy := k52.blk qy; replace hb2 := hb2.trans hq0; clear ho k52 y0 y1 y2 y3; have ho := ho'; clear ho'; obtain ⟨y0, y1, y2, y3⟩ := qy.c4)
        | (at_builtin; refine wpList_flat rfl (.tmp 28) (.tmp 30) rfl W1.heap.size (4 * k + 1) _ (seqA m) (Y k 1) rfl rfl ho (LAY.out _ hb2 1 (by decide)) (FEW.out (4 * k + 1 + 1) (by omega)) hb2.size ?_; intro v1 w1 hq1 _ k52 ho'; replace qy := k52.blk qy; replace hb2 := hb2.trans hq1; clear ho k52 y0 y1 y2 y3; have ho := ho'; clear ho'; obtain ⟨y0, y1, y2, y3⟩ := qy.c4)
        | (at_builtin; refine wpList_flat rfl (.tmp 32) (.tmp 34) rfl W1.heap.size (4 * k + 2) _ (seqA m) (Y k 2) rfl rfl ho (LAY.out _ hb2 2 (by decide)) (FEW.out (4 * k + 2 + 1) (by omega)) hb2.size ?_; intro v2 w2 hq2 _ k52 ho'; replace qy := k52.blk qy; replace hb2 := hb2.trans hq2; clear ho k52 y0 y1 y2 y3; have ho := ho'; clear ho'; obtain ⟨y0, y1, y2, y3⟩ := qy.c4)
        | (at_builtin; refine wpList_flat rfl (.tmp 36) (.tmp 38) rfl W1.heap.size (4 * k + 3) _ (seqA m) (Y k 3) rfl rfl ho (LAY.out _ hb2 3 (by decide)) (FEW.out (4 * k + 3 + 1) (by omega)) hb2.size ?_; intro v3 w3 hq3 _ k52 ho'; replace qy := k52.blk qy; replace hb2 := hb2.trans hq3; clear ho k52 y0 y1 y2 y3; have ho := ho'; clear ho'; obtain ⟨y0, y1, y2, y3⟩ := qy.c4))
      go_roundw
      case rel => exact ⟨k + 1, by omega, by go_num, hb2, ho⟩
      case measure => simp [intOf]; omega
    · have e : k = ml := by omega
      subst e
      have fl := FEW.out (4 * k) (by omega)
      obtain ⟨q, rfl, hq⟩ := ownF_is ho fl (by have := WF.out; unfold flatA at this; rwa [HL.out] at this)
      have hq' : IsS wr q (flatA m) := by unfold flatA; rw [HL.out]; exact hq
      obtain ⟨a0, a1, a2⟩ := (HB.out.2.kept hbr).c3
      clear ho hq
      go_wp2
      go_ret
      exact ⟨q, rfl, hq', below_then HB.out.1 hbr⟩

theorem refFlat_no (R S d h l v u x t n : Int) (La : Option Addr) (ml Lc : Nat) (w : World) (Z : Int) (hZ : (Z == 0) = false)
    (k12 : ∀ W, Below w.heap.size w W → Calls Try.prog 13 #[.agg #[.int .i64 R, .int .i64 S, .slice La ml Lc], .agg #[.int .i64 d, .int .i64 h, .int .i64 l, .int .i64 v, .int .i64 u, .int .i64 x, .int .i64 t, .int .i64 n]] W fun e w' => e = .returned (.int .i64 Z) ∧ Below W.heap.size W w') :
    Calls Try.prog 16 #[.agg #[.int .i64 R, .int .i64 S, .slice La ml Lc], .agg #[.int .i64 d, .int .i64 h, .int .i64 l, .int .i64 v, .int .i64 u, .int .i64 x, .int .i64 t, .int .i64 n]] w fun e w' => e = .returned (.slice none 0 0) ∧ Below w.heap.size w w' := by
  have hb := below_new (below_new (Below.refl w.heap.size w) (.cells #[.int .i64 R, .int .i64 S, .slice La ml Lc] 24)) (.cells #[.int .i64 d, .int .i64 h, .int .i64 l, .int .i64 v, .int .i64 u, .int .i64 x, .int .i64 t, .int .i64 n] 26)
  have qa : Blk 24 ((w.alloc (.cells #[.int .i64 R, .int .i64 S, .slice La ml Lc] 24)).alloc (.cells #[.int .i64 d, .int .i64 h, .int .i64 l, .int .i64 v, .int .i64 u, .int .i64 x, .int .i64 t, .int .i64 n] 26)) w.heap.size #[.int .i64 R, .int .i64 S, .slice La ml Lc] := (Blk.new 24 w _).kept (below_new (Below.refl _ _) _)
  have qc : Blk 26 ((w.alloc (.cells #[.int .i64 R, .int .i64 S, .slice La ml Lc] 24)).alloc (.cells #[.int .i64 d, .int .i64 h, .int .i64 l, .int .i64 v, .int .i64 u, .int .i64 x, .int .i64 t, .int .i64 n] 26)) (w.heap.size + 1) #[.int .i64 d, .int .i64 h, .int .i64 l, .int .i64 v, .int .i64 u, .int .i64 x, .int .i64 t, .int .i64 n] := Blk.new_at 26 (w.alloc _) _ _ (by simp)
  obtain ⟨a0, a1, a2⟩ := qa.c3
  obtain ⟨c0, c1, c2, c3, c4, c5, c6, c7⟩ := qc.cfg
  go_enter Try.func16, Try.ntmps16
  go_wp2_with (first | (go_at_call 13; refine (k12 _ hb).mono ?_; rintro e W1 ⟨rfl, h1⟩; replace qa := qa.kept h1; replace qc := qc.kept h1; replace hb := below_then hb h1; clear h1 a0 a1 a2 c0 c1 c2 c3 c4 c5 c6 c7; obtain ⟨a0, a1, a2⟩ := qa.c3; obtain ⟨c0, c1, c2, c3, c4, c5, c6, c7⟩ := qc.cfg))
  go_ret
  exact ⟨rfl, hb⟩

theorem refFlat_call (R S d h l v u x t n : Int) (L : SL) (Y : Nat → Nat → SL) (m : AdV) (w : World) (hM : AdAt w L Y m)
    (k13 : ∀ W, AdAt W L Y m → Calls Try.prog 13 #[.agg #[.int .i64 R, .int .i64 S, .slice L.a L.n L.c], .agg #[.int .i64 d, .int .i64 h, .int .i64 l, .int .i64 v, .int .i64 u, .int .i64 x, .int .i64 t, .int .i64 n]] W fun e w' => e = .returned (.int .i64 (checkA R S d h l v u x t n m)) ∧ Below W.heap.size W w') :
    Calls Try.prog 16 #[.agg #[.int .i64 R, .int .i64 S, .slice L.a L.n L.c], .agg #[.int .i64 d, .int .i64 h, .int .i64 l, .int .i64 v, .int .i64 u, .int .i64 x, .int .i64 t, .int .i64 n]] w fun e w' => ∃ s : SL, e = .returned (.slice s.a s.n s.c) ∧ IsS w' s (if checkA R S d h l v u x t n m = 0 then flatA m else []) ∧ Below w.heap.size w w' := by
  have k12 := fun W hb => k13 W (hM.below (w' := W) hb)
  by_cases hz : checkA R S d h l v u x t n m = 0
  · rw [if_pos hz]
    simp only [hz] at k12
    obtain ⟨ok, hln, hlen⟩ := checked hz
    have r := rightA_of ok
    have l0 := r.l0
    have l1 := r.l1
    obtain ⟨x0, ex⟩ := hM.some_ (by omega)
    have hn : L.n = m.ln := hM.len
    have ff := flat_few hz
    rw [ex, hn] at k12 ⊢
    exact refFlat_yes R S d h l v u x t n x0 m.ln L.c L Y m w hM ex rfl (by omega) (fun k hk => by have := (ff k hk).2; omega) k12
  · rw [if_neg hz]
    exact (refFlat_no R S d h l v u x t n L.a L.n L.c w _ (by simp [hz]) k12).mono fun e w' ⟨he, hb⟩ => ⟨⟨none, 0, 0⟩, he, IsS.none_ _, hb⟩

end Go.Proofs.Ytbmlafgolmmekaa
