/- Flat of any adapter for any configuration. -/
import Derived.Test.YtbmlafgolmmekabRows
import Derived.Test.YtbmlafgolmmekabView
import Derived.Test.YtbmlafgolmmekabOwn
import Derived.Test.YtbmlafgolmmekabCfg
import Derived.Test.YtbmlafgolmmekabCfgs
import Derived.Test.YtbmlafgolmmekabCfgRef
import Derived.Test.YtbmlafgolmmekabHeld
import Derived.Test.YtbmlafgolmmekabReader
import Derived.Test.YtbmlafgolmmekabSls
import Derived.Test.YtbmlafgolmmekabSteps
import Derived.Test.YtbmlafgolmmekabInv
import Derived.Test.YtbmlafgolmmekabTyped
import Derived.Test.YtbmlafgolmmekabAds
import Derived.Test.YtbmlafgolmmekabRanges
import Derived.Test.YtbmlafgolmmekabCheck
import Derived.Test.YtbmlafgolmmekabPlan
import Derived.WalkKit
import Derived.ProofKit
import Derived.OpenShut
import Derived.Below
import Derived.WalkLawsBesides
import Derived.Deep.QuietTactic
import Derived.BigQuiet
import Derived.Lib.QuietBelow
import Derived.Deep.RegionHeld3
namespace Go.Proofs.Ytbmlafgolmmekab
open Go.ChangeShapes Go.WideShapes Go.ChangeAt Go.RowKit Go.Sort
set_option linter.unusedVariables false


set_option maxHeartbeats 4000000 in
theorem flat_yes (R S d h l v u x t n : Int) (x0 : Addr) (ml Lc : Nat) (L : SL) (Y : Nat → Nat → SL) (m : AdV) (w : World) (hM : AdAt w L Y m) (eA : L.a = some x0) (hml : m.ln = ml) (hl : ml ≤ 1000) (few : ∀ k, k ≤ 4 * ml → (flatTo (seqA m) k).length ≤ 1000000)
    (k12 : ∀ W, Below w.heap.size w W → Calls Try.prog 10 #[.agg #[.int .i64 R, .int .i64 S, .slice (some x0) ml Lc], .agg #[.int .i64 d, .int .i64 h, .int .i64 l, .int .i64 v, .int .i64 u, .int .i64 x, .int .i64 t, .int .i64 n]] W fun e w' => e = .returned (.int .i64 0) ∧ Below W.heap.size W w') :
    Calls Try.prog 21 #[.agg #[.int .i64 R, .int .i64 S, .slice (some x0) ml Lc], .agg #[.int .i64 d, .int .i64 h, .int .i64 l, .int .i64 v, .int .i64 u, .int .i64 x, .int .i64 t, .int .i64 n]] w fun e w' => ∃ s : SL, e = .returned (.slice s.a s.n s.c) ∧ IsS w' s (flatA m) ∧ Below w.heap.size w w' := by
  have hb := below_new (below_new (Below.refl w.heap.size w) (.cells #[.int .i64 R, .int .i64 S, .slice (some x0) ml Lc] 24)) (.cells #[.int .i64 d, .int .i64 h, .int .i64 l, .int .i64 v, .int .i64 u, .int .i64 x, .int .i64 t, .int .i64 n] 26)
  have qa : Blk 24 ((w.alloc (.cells #[.int .i64 R, .int .i64 S, .slice (some x0) ml Lc] 24)).alloc (.cells #[.int .i64 d, .int .i64 h, .int .i64 l, .int .i64 v, .int .i64 u, .int .i64 x, .int .i64 t, .int .i64 n] 26)) w.heap.size #[.int .i64 R, .int .i64 S, .slice (some x0) ml Lc] := (Blk.new 24 w _).kept (below_new (Below.refl _ _) _)
  have qc : Blk 26 ((w.alloc (.cells #[.int .i64 R, .int .i64 S, .slice (some x0) ml Lc] 24)).alloc (.cells #[.int .i64 d, .int .i64 h, .int .i64 l, .int .i64 v, .int .i64 u, .int .i64 x, .int .i64 t, .int .i64 n] 26)) (w.heap.size + 1) #[.int .i64 d, .int .i64 h, .int .i64 l, .int .i64 v, .int .i64 u, .int .i64 x, .int .i64 t, .int .i64 n] := Blk.new_at 26 (w.alloc _) _ _ (by simp)
  obtain ⟨a0, a1, a2⟩ := qa.c3
  obtain ⟨c0, c1, c2, c3, c4, c5, c6, c7⟩ := qc.cfg
  have HM := hidden_ hM
  have HL := hidden_ hml
  have HA := hidden_ eA
  have FEW := hidden_ few
  have WF := hidden_ (flatA_wf hM)
  clear hM hml eA few
  go_enter Try.func21, Try.ntmps21
  go_wp2_with (first | (go_at_call 10; refine (k12 _ hb).mono ?_; rintro e W1 ⟨rfl, h1⟩; replace qa := qa.kept h1; replace qc := qc.kept h1; replace hb := below_then hb h1; clear h1 a0 a1 a2 c0 c1 c2 c3 c4 c5 c6 c7; obtain ⟨a0, a1, a2⟩ := qa.c3; obtain ⟨c0, c1, c2, c3, c4, c5, c6, c7⟩ := qc.cfg))
  have hs1 := hb.size
  have HB := hidden_ (And.intro hb qa)
  clear hb qa qc a0 a1 a2 c0 c1 c2 c3 c4 c5 c6 c7 k12
  go_loopw [5, 16] (fun v5 i wr => ∃ k : Nat, k ≤ ml ∧ i = .int .i64 k ∧ Below W1.heap.size W1 wr ∧ OwnF W1.heap.size wr v5 (seqA m) (4 * k)) (fun _ i _ => ml - (intOf i).toNat)
  case atStart => exact ⟨0, Nat.zero_le _, rfl, Below.refl _ _, OwnF.nil _ _ _⟩
  case round =>
    obtain ⟨k, hk, rfl, hbr, ho⟩ := hrel
    by_cases hlt : k < ml
    · have hlt' : (k : Int) < (ml : Int) := by omega
      obtain ⟨a0, a1, a2⟩ := (HB.out.2.kept hbr).c3
      have hc := HM.out.cell x0 HA.out k (by rw [HL.out]; exact hlt)
      obtain ⟨P, eP⟩ : ∃ P, x0.add (k * 4) = P := ⟨_, rfl⟩
      rw [eP] at hc
      have HC := hidden_ hc
      clear hc
      have k33 := lists_call P
      have HO := hidden_ ho
      have HR := hidden_ hbr
      clear ho hbr
      go_wp2_with (first | (go_at_call 27; refine (k33 _).mono ?_; rintro e W2 ⟨rfl, h2⟩; have ho := HO.out.below h2; have hbr := below_then HR.out h2; clear h2 a0 a1 a2 HO HR))
      obtain ⟨i0, i1, i2, i3⟩ := index_all (.pointer (some P)) (.pointer (some ⟨P.block, P.off + 1, none⟩)) (.pointer (some ⟨P.block, P.off + 2, none⟩)) (.pointer (some ⟨P.block, P.off + 3, none⟩))
      have ix : Hid (∀ j, j < 4 → ∀ w : World, (Instr.index 58 (.agg #[.pointer (some P), .pointer (some ⟨P.block, P.off + 1, none⟩), .pointer (some ⟨P.block, P.off + 2, none⟩), .pointer (some ⟨P.block, P.off + 3, none⟩)]) (.int .i64 (j : Nat))).run Try.prog w = .ok (.pointer (some (P.add j))) w) := fun j hj => by
        rcases (show j = 0 ∨ j = 1 ∨ j = 2 ∨ j = 3 by omega) with rfl | rfl | rfl | rfl
        · exact i0
        · exact i1
        · exact i2
        · exact i3
      clear i0 i1 i2 i3 k33 eP
      have HO := hidden_ (And.intro hbr ho)
      clear hbr ho
      go_loopw [5, 24] (fun v5 i wr => ∃ j : Nat, j ≤ 4 ∧ i = .int .i64 j ∧ Below W1.heap.size W1 wr ∧ OwnF W1.heap.size wr v5 (seqA m) (4 * k + j)) (fun _ i _ => 4 - (intOf i).toNat)
      case atStart => exact ⟨0, Nat.zero_le _, rfl, HO.out.1, HO.out.2⟩
      case round =>
        clear HO
        obtain ⟨j, hj, rfl, hbr, ho⟩ := hrel
        by_cases hjt : j < 4
        · have hjt' : (j : Int) < 4 := by omega
          have ij := ix.out j hjt
          have hbw := below_then HB.out.1 hbr
          have hc := HC.out j hjt
          have hc' := ((hbw.cell (World.block_lt_of_cell? w _ hc)).trans hc)
          have hI := (HM.out.below hbw).lay k (by rw [HL.out]; exact hlt) j hjt
          rw [← seqA_at m k j hjt] at hI
          obtain ⟨Q, eQ⟩ : ∃ Q, P.add j = Q := ⟨_, rfl⟩
          rw [eQ] at ij hc'
          obtain ⟨y, ey⟩ : ∃ y, Y k j = y := ⟨_, rfl⟩
          rw [ey] at hc' hI
          have cq : wr.cell? Q = some (.slice y.a y.n y.c) := hc'
          have fl := FEW.out (4 * k + j + 1) (by omega)
          have hsz := hbr.size
          clear hc hc' eQ ey hbw
          go_wp2_with (first | (at_builtin; refine wpList_flat rfl (.tmp 27) (.tmp 30) rfl W1.heap.size (4 * k + j) _ (seqA m) y rfl rfl ho hI fl hsz ?_; intro v' w' hb' _ _ ho'))
          go_roundw
          case rel => exact ⟨j + 1, by omega, by go_num, hbr.trans hb', ho'⟩
          case measure => simp [intOf]; omega
        · have e : j = 4 := by omega
          subst e
          go_wp2
          go_roundw
          case rel => exact ⟨k + 1, by omega, by go_num, hbr, ho⟩
          case measure => simp [intOf]; omega
    · have e : k = ml := by omega
      subst e
      have fl := FEW.out (4 * k) (by omega)
      obtain ⟨q, rfl, hq⟩ := ownF_is ho fl (by have := WF.out; unfold flatA at this; rwa [HL.out] at this)
      have hq' : IsS wr q (flatA m) := by unfold flatA; rw [HL.out]; exact hq
      obtain ⟨a0, a1, a2⟩ := (HB.out.2.kept hbr).c3
      clear ho hq
      go_wp2
      go_ret
      exact ⟨q, rfl, hq', below_then HB.out.1 hbr⟩

theorem flat_no (R S d h l v u x t n : Int) (La : Option Addr) (ml Lc : Nat) (w : World) (Z : Int) (hZ : (Z == 0) = false)
    (k12 : ∀ W, Below w.heap.size w W → Calls Try.prog 10 #[.agg #[.int .i64 R, .int .i64 S, .slice La ml Lc], .agg #[.int .i64 d, .int .i64 h, .int .i64 l, .int .i64 v, .int .i64 u, .int .i64 x, .int .i64 t, .int .i64 n]] W fun e w' => e = .returned (.int .i64 Z) ∧ Below W.heap.size W w') :
    Calls Try.prog 21 #[.agg #[.int .i64 R, .int .i64 S, .slice La ml Lc], .agg #[.int .i64 d, .int .i64 h, .int .i64 l, .int .i64 v, .int .i64 u, .int .i64 x, .int .i64 t, .int .i64 n]] w fun e w' => e = .returned (.slice none 0 0) ∧ Below w.heap.size w w' := by
  have hb := below_new (below_new (Below.refl w.heap.size w) (.cells #[.int .i64 R, .int .i64 S, .slice La ml Lc] 24)) (.cells #[.int .i64 d, .int .i64 h, .int .i64 l, .int .i64 v, .int .i64 u, .int .i64 x, .int .i64 t, .int .i64 n] 26)
  have qa : Blk 24 ((w.alloc (.cells #[.int .i64 R, .int .i64 S, .slice La ml Lc] 24)).alloc (.cells #[.int .i64 d, .int .i64 h, .int .i64 l, .int .i64 v, .int .i64 u, .int .i64 x, .int .i64 t, .int .i64 n] 26)) w.heap.size #[.int .i64 R, .int .i64 S, .slice La ml Lc] := (Blk.new 24 w _).kept (below_new (Below.refl _ _) _)
  have qc : Blk 26 ((w.alloc (.cells #[.int .i64 R, .int .i64 S, .slice La ml Lc] 24)).alloc (.cells #[.int .i64 d, .int .i64 h, .int .i64 l, .int .i64 v, .int .i64 u, .int .i64 x, .int .i64 t, .int .i64 n] 26)) (w.heap.size + 1) #[.int .i64 d, .int .i64 h, .int .i64 l, .int .i64 v, .int .i64 u, .int .i64 x, .int .i64 t, .int .i64 n] := Blk.new_at 26 (w.alloc _) _ _ (by simp)
  obtain ⟨a0, a1, a2⟩ := qa.c3
  obtain ⟨c0, c1, c2, c3, c4, c5, c6, c7⟩ := qc.cfg
  go_enter Try.func21, Try.ntmps21
  go_wp2_with (first | (go_at_call 10; refine (k12 _ hb).mono ?_; rintro e W1 ⟨rfl, h1⟩; replace qa := qa.kept h1; replace qc := qc.kept h1; replace hb := below_then hb h1; clear h1 a0 a1 a2 c0 c1 c2 c3 c4 c5 c6 c7; obtain ⟨a0, a1, a2⟩ := qa.c3; obtain ⟨c0, c1, c2, c3, c4, c5, c6, c7⟩ := qc.cfg))
  go_ret
  exact ⟨rfl, hb⟩

/-- what is checked is of one length -/
theorem checked {R S d h l v u x t n : Int} {m : AdV} (hz : checkA R S d h l v u x t n m = 0) : okA R S d h l v u x t n = true ∧ (m.ln : Int) = l ∧ ∀ i, i < m.ln → ∀ j, j < 4 → (m.f i j).length = (R * d).toNat := by
  unfold checkA at hz
  by_cases ok : okA R S d h l v u x t n = true
  · rw [if_pos ok] at hz
    by_cases e : (m.ln : Int) = l ∧ lensA R d m = true
    · exact ⟨ok, e.1, fun i hi j hj => by have := lensA_iff.1 e.2 i hi j hj; omega⟩
    · rw [if_neg e] at hz
      cases hz
  · rw [if_neg ok] at hz
    cases hz

theorem flat_few {R S d h l v u x t n : Int} {m : AdV} (hz : checkA R S d h l v u x t n m = 0) : ∀ k, k ≤ 4 * m.ln → (flatTo (seqA m) k).length = k * (R * d).toNat ∧ (flatTo (seqA m) k).length ≤ 256 := by
  obtain ⟨ok, hln, hlen⟩ := checked hz
  have r := rightA_of ok
  intro k hk
  have e := flat_len (seqA m) (R * d).toNat (4 * m.ln) (fun q hq => hlen (q / 4) (by omega) (q % 4) (by omega)) k hk
  refine ⟨e, ?_⟩
  have hp' : R * d ≤ 4 * 8 := Int.mul_le_mul r.r1 r.d1 (by have := r.d0; omega) (by omega)
  have h1 := r.l1
  rw [e]
  have := Nat.mul_le_mul (show k ≤ 8 by omega) (show (R * d).toNat ≤ 32 by omega)
  omega

theorem flat_call (R S d h l v u x t n : Int) (L : SL) (Y : Nat → Nat → SL) (m : AdV) (w : World) (hM : AdAt w L Y m) :
    Calls Try.prog 21 #[.agg #[.int .i64 R, .int .i64 S, .slice L.a L.n L.c], .agg #[.int .i64 d, .int .i64 h, .int .i64 l, .int .i64 v, .int .i64 u, .int .i64 x, .int .i64 t, .int .i64 n]] w fun e w' => ∃ s : SL, e = .returned (.slice s.a s.n s.c) ∧ IsS w' s (if checkA R S d h l v u x t n m = 0 then flatA m else []) ∧ Below w.heap.size w w' := by
  have k12 := fun W hb => check_call R S d h l v u x t n L Y m W (hM.below (w' := W) hb)
  by_cases hz : checkA R S d h l v u x t n m = 0
  · rw [if_pos hz]
    simp only [hz] at k12
    obtain ⟨ok, hln, hlen⟩ := checked hz
    have r := rightA_of ok
    have l0 := r.l0
    have l1 := r.l1
    obtain ⟨x0, ex⟩ := hM.some_ (by omega)
    have hn : L.n = m.ln := hM.len
    have ff := flat_few hz
    rw [ex, hn] at k12 ⊢
    exact flat_yes R S d h l v u x t n x0 m.ln L.c L Y m w hM ex rfl (by omega) (fun k hk => by have := (ff k hk).2; omega) k12
  · rw [if_neg hz]
    exact (flat_no R S d h l v u x t n L.a L.n L.c w _ (by simp [hz]) k12).mono fun e w' ⟨he, hb⟩ => ⟨⟨none, 0, 0⟩, he, IsS.none_ _, hb⟩

end Go.Proofs.Ytbmlafgolmmekab
