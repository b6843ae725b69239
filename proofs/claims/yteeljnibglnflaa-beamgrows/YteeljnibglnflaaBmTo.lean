/- Beams of one kind made of the other: contracts of the calls. -/
import Derived.Test.YteeljnibglnflaaRows
import Derived.Test.YteeljnibglnflaaView
import Derived.Test.YteeljnibglnflaaOwn
import Derived.Test.YteeljnibglnflaaSteps
import Derived.Test.YteeljnibglnflaaBmZ
import Derived.Test.YteeljnibglnflaaBmAt
import Derived.Test.YteeljnibglnflaaBmWhole
import Derived.Test.YteeljnibglnflaaGInvIn
import Derived.Test.YteeljnibglnflaaBmGI
import Derived.Test.YteeljnibglnflaaBmReg
import Derived.Test.YteeljnibglnflaaBmRun
import Derived.WalkKit
import Derived.ProofKit
import Derived.OpenShut
import Derived.WalkLawsBesides
import Derived.Below
import Derived.Deep.QuietTactic
import Derived.BigQuiet
import Derived.Laws.AppendOwnNone
import Derived.Orders
namespace Go.Proofs.Yteeljnibglnflaa
set_option maxRecDepth 20000
open Go.ChangeShapes Go.WideShapes Go.ChangeAt Go.RowKit
set_option linter.unusedVariables false
set_option linter.unusedSimpArgs false

set_option maxHeartbeats 1000000 in
theorem To_call (a0 : Option Addr) (n ca : Nat) (A : Nat → Option Addr) (C : Nat → Nat) (L : Nat → Bm) (w : World) (h0 : BmAt w a0 n A C L) (hn : n ≤ 1000) (hT : ∀ r, r < n → (L r).t.length ≤ 1000000) :
    Calls Try.prog 9 #[.slice a0 n ca] w fun e w' => (∃ a c Ar Cr, e = .returned (.slice a n c) ∧ BmAt w' a n Ar Cr L ∧ n ≤ c ∧ (a = none → c = 0)) ∧ Below w.heap.size w w' := by
  have H0 : Hid (BmAt w a0 n A C L) := h0
  have HT : Hid (∀ r, r < n → (L r).t.length ≤ 1000000) := hT
  clear h0 hT
  go_enter Try.func9, Try.ntmps9
  go_wp2
  go_loopw [3, 4] (fun v i wr => ∃ (k : Nat) (va : Option Addr) (vc : Nat), k ≤ n ∧ i = .int .i64 k ∧ v = .slice va k vc ∧ Below w.heap.size w wr ∧ ∃ Ar Cr, Hid (OwnBm w.heap.size wr 40 v k Ar Cr L)) (fun _ i _ => n - (intOf i).toNat)
  case atStart => exact ⟨0, none, 0, Nat.zero_le _, rfl, rfl, Below.refl _ _, (fun _ => none), (fun _ => 0), OwnBm.start _ _ _ _ _ _⟩
  case round =>
    obtain ⟨k, va, vc, hk, rfl, rfl, hbr, Ar, Cr, HO⟩ := hrel
    by_cases hlt : k < n
    · obtain ⟨x, hx⟩ := H0.out.some_ (by omega)
      subst hx
      have hr := H0.out.below hbr
      obtain ⟨y, ey, d0, d1, d2⟩ := hr.at3 hlt
      have rd := hr.row k hlt
      have tl := HT.out k hlt
      have ww := H0.out.wf k hlt
      have hos := hbr.size
      obtain ⟨W1, eW1⟩ : ∃ W1, wr.drew.alloc (.cells #[] 3) = W1 := ⟨_, rfl⟩
      have b1 : Below wr.heap.size wr W1 := by rw [← eW1]; exact below_new (below_drew (Below.refl _ _) ⟨1, rfl⟩) _
      have z1 : W1.heap[wr.heap.size]? = some (.cells #[] 3 (0, 0)) := by rw [← eW1]; exact heap_alloc_new wr.drew _
      have sz1 : W1.heap.size = wr.heap.size + 1 := by rw [← eW1]; show (wr.heap.push _).size = _; simp
      obtain ⟨b, cc, W2, rc, rd2, hcc, b2, hfb⟩ := run_copy29 z1 (rd.below b1) (c := C k) (by omega)
      have b12 := below_then b1 b2
      obtain ⟨v', W4, hrun, ho4, hg4, hs4⟩ := (HO.out.below b12).push (t := 27) (p := some ⟨b, 0, none⟩) (c := cc) Try.underlying27 info40 (by have := b12.size; omega) (by omega) rd2 (fun _ x hx g hg => by
        obtain rfl := Option.some.inj hx
        have h1 := (HO.out.own.lt g hg).2
        have h2 := b1.size
        show b ≠ g
        rcases hfb with e | e <;> omega) (fun e => by cases e) ww
      obtain ⟨va', vc', rfl, -, -, -⟩ := ho4.at_
      have HF : Hid (OwnBm w.heap.size W4 40 (.slice va' (k + 1) vc') (k + 1) (fun r => if r = k then some ⟨b, 0, none⟩ else Ar r) (fun r => if r = k then cc else Cr r) L) := ho4
      have hb4 : Below w.heap.size w W4 := ((below_then hbr b12).alloc (by have := b12.size; omega) _).grown hg4 (by have := b12.size; simp; omega) (fun g h => (HO.out.own.lt g h).1)
      go_wp2
      rw [← eW1] at rc b1 z1 sz1
      refine to_region (some x) n ca k wr.heap.size W2.heap.size va k vc (some ⟨b, 0, none⟩) (L k).t.length cc va' (k + 1) vc' (A k) (C k) y (L k).s (L k).f (wr.drew.alloc (.cells #[] 3)) W2 (W2.alloc (.cells #[.slice (some ⟨b, 0, none⟩) (L k).t.length cc, .int .i64 (L k).s, .bool (L k).f] 40)) W4 (fun W => ∀ p u, wr.cell? p = some u → W.cell? p = some u) (by kernel_rfl) rfl ⟨_, rfl, rfl, rfl, rfl, by kernel_rfl⟩ ⟨_, rfl, rfl, rfl, rfl, by kernel_rfl⟩ ⟨_, rfl, rfl, rfl, rfl, by kernel_rfl⟩ ⟨_, rfl, rfl, rfl, rfl, by kernel_rfl⟩ ⟨_, rfl, rfl, rfl, rfl, by kernel_rfl⟩ ⟨_, rfl, rfl, rfl, rfl, by kernel_rfl⟩ ⟨_, rfl, rfl, rfl, rfl, by kernel_rfl⟩ ⟨_, rfl, rfl, rfl, rfl, by kernel_rfl⟩ ⟨_, rfl, rfl, rfl, rfl, by kernel_rfl⟩ ⟨_, rfl, rfl, rfl, rfl, by kernel_rfl⟩ ⟨_, rfl, rfl, rfl, rfl, by kernel_rfl⟩ ⟨_, rfl, rfl, rfl, rfl, by kernel_rfl⟩ ⟨_, rfl, rfl, rfl, rfl, by kernel_rfl⟩ ⟨_, rfl, rfl, rfl, rfl, by kernel_rfl⟩ ⟨_, rfl, rfl, rfl, rfl, by kernel_rfl⟩ ⟨_, rfl, rfl, rfl, rfl, by kernel_rfl⟩ ⟨_, rfl, rfl, rfl, rfl, by kernel_rfl⟩ ⟨_, rfl, rfl, rfl, rfl, by kernel_rfl⟩ ⟨_, rfl, rfl, rfl, rfl, by kernel_rfl⟩ ⟨_, rfl, rfl, rfl, rfl, by kernel_rfl⟩ ⟨_, rfl, rfl, rfl, rfl, by kernel_rfl⟩ ⟨_, rfl, rfl, rfl, rfl, by kernel_rfl⟩ _ (fun o h => by obtain rfl := Option.some.inj h; rfl) _ (fun o h => by obtain rfl := Option.some.inj h; rfl) (fun _ _ h => h) (fun _ _ h => below_cell b1 h) (fun _ _ h => below_cell b12 h) (fun _ _ h => below_cell (below_new b12 _) h) (run_lit29 _) (run_index22 x y _ _ _ hlt ey) (run_field42_0 y) (fun W hW => run_load29 (hW _ _ d0)) rc (run_index22 x y _ _ _ hlt ey) (run_field42_1 y) (fun W hW => run_load2 (hW _ _ d1)) (run_index22 x y _ _ _ hlt ey) (run_field42_2 y) (fun W hW => run_load4 (hW _ _ d2)) (run_bm40 _ _ _ _ _) (run_lit27 _ _ _ _ _ _) hrun rfl rfl rfl (Nat.le_of_ble_eq_true rfl) ?_
      intro aF hsF hdF hkp hval
      have e3 : aF.tmps.getD 3 undef = .slice va' (k + 1) vc' := hval 21 3 (by decide) rfl
      have ep := frame_puts [11, 12, 13, 14, 15, 16, 17, 18, 19, 20, 21, 22, 23, 24, 25, 26, 27, 28, 29, 30, 31, 3] hsF hdF (fun s h => hkp s (fun i hi e => h (by
        rcases (show i = 0 ∨ i = 1 ∨ i = 2 ∨ i = 3 ∨ i = 4 ∨ i = 5 ∨ i = 6 ∨ i = 7 ∨ i = 8 ∨ i = 9 ∨ i = 10 ∨ i = 11 ∨ i = 12 ∨ i = 13 ∨ i = 14 ∨ i = 15 ∨ i = 16 ∨ i = 17 ∨ i = 18 ∨ i = 19 ∨ i = 20 ∨ i = 21 by omega) with rfl | rfl | rfl | rfl | rfl | rfl | rfl | rfl | rfl | rfl | rfl | rfl | rfl | rfl | rfl | rfl | rfl | rfl | rfl | rfl | rfl | rfl <;> (simp only [toD, Option.some.injEq, reduceCtorEq] at e; try (subst e; simp)))))
      simp only [List.foldl] at ep
      rw [e3] at ep
      clear hsF hdF hkp hval e3
      generalize aF.tmps.getD 11 undef = g11 at ep
      generalize aF.tmps.getD 12 undef = g12 at ep
      generalize aF.tmps.getD 13 undef = g13 at ep
      generalize aF.tmps.getD 14 undef = g14 at ep
      generalize aF.tmps.getD 15 undef = g15 at ep
      generalize aF.tmps.getD 16 undef = g16 at ep
      generalize aF.tmps.getD 17 undef = g17 at ep
      generalize aF.tmps.getD 18 undef = g18 at ep
      generalize aF.tmps.getD 19 undef = g19 at ep
      generalize aF.tmps.getD 20 undef = g20 at ep
      generalize aF.tmps.getD 21 undef = g21 at ep
      generalize aF.tmps.getD 22 undef = g22 at ep
      generalize aF.tmps.getD 23 undef = g23 at ep
      generalize aF.tmps.getD 24 undef = g24 at ep
      generalize aF.tmps.getD 25 undef = g25 at ep
      generalize aF.tmps.getD 26 undef = g26 at ep
      generalize aF.tmps.getD 27 undef = g27 at ep
      generalize aF.tmps.getD 28 undef = g28 at ep
      generalize aF.tmps.getD 29 undef = g29 at ep
      generalize aF.tmps.getD 30 undef = g30 at ep
      generalize aF.tmps.getD 31 undef = g31 at ep
      simp only [Act.put, List.setIfInBounds_toArray, List.set_cons_succ, List.set_cons_zero] at ep
      subst ep

      clear HO ho4 hrun rc rd2 rd hr d0 d1 d2 ey z1 b1 b2 b12 hg4 hs4 eW1 sz1
      go_wp2
      go_roundw
      case rel => exact ⟨k + 1, va', vc', by omega, by go_num, rfl, hb4, _, _, HF⟩
      case measure => simp [intOf]; omega
    · obtain rfl : k = n := by omega
      obtain ⟨a', c', ev, hB, hnone, hc⟩ := HO.out.at_
      simp only [Value.slice.injEq, true_and] at ev
      obtain ⟨rfl, rfl⟩ := ev
      go_wp2
      go_ret
      exact ⟨⟨_, _, _, _, rfl, hB, hc, hnone⟩, hbr⟩

set_option maxHeartbeats 1000000 in
theorem From_call (a0 : Option Addr) (n ca : Nat) (A : Nat → Option Addr) (C : Nat → Nat) (L : Nat → Bm) (w : World) (h0 : BmAt w a0 n A C L) (hn : n ≤ 1000) :
    Calls Try.prog 13 #[.slice a0 n ca] w fun e w' => (∃ a c Ar Cr, e = .returned (.slice a n c) ∧ BmAt w' a n Ar Cr L ∧ n ≤ c ∧ (a = none → c = 0)) ∧ Below w.heap.size w w' := by
  have H0 : Hid (BmAt w a0 n A C L) := h0
  clear h0
  go_enter Try.func13, Try.ntmps13
  go_wp2
  go_loopw [3, 4] (fun v i wr => ∃ (k : Nat) (va : Option Addr) (vc : Nat), k ≤ n ∧ i = .int .i64 k ∧ v = .slice va k vc ∧ Below w.heap.size w wr ∧ ∃ Ar Cr, Hid (OwnBm w.heap.size wr 42 v k Ar Cr L)) (fun _ i _ => n - (intOf i).toNat)
  case atStart => exact ⟨0, none, 0, Nat.zero_le _, rfl, rfl, Below.refl _ _, (fun _ => none), (fun _ => 0), OwnBm.start _ _ _ _ _ _⟩
  case round =>
    obtain ⟨k, va, vc, hk, rfl, rfl, hbr, Ar, Cr, HO⟩ := hrel
    by_cases hlt : k < n
    · obtain ⟨x, hx⟩ := H0.out.some_ (by omega)
      subst hx
      have hr := H0.out.below hbr
      obtain ⟨y, ey, d0, d1, d2⟩ := hr.at3 hlt
      have rd := hr.row k hlt
      have ww := H0.out.wf k hlt
      have hos := hbr.size
      have b12 : Below wr.heap.size wr wr.drew := below_drew (Below.refl _ _) ⟨1, rfl⟩
      obtain ⟨v', W4, hrun, ho4, hg4, hs4⟩ := (HO.out.below b12).push (t := 22) (p := A k) (c := C k) Try.underlying22 info42 (by have := b12.size; omega) (by omega) (rd.below b12) (fun h0 x hx g hg e => by
        have h1 := (HO.out.own.lt g hg).1
        have h2 := World.block_lt_of_cell? w _ ((H0.out.row k hlt).cell x hx 0 h0)
        have h3 : x.block < w.heap.size := by simpa [Addr.add] using h2
        omega) (H0.out.nil k hlt) ww
      obtain ⟨va', vc', rfl, -, -, -⟩ := ho4.at_
      have HF : Hid (OwnBm w.heap.size W4 42 (.slice va' (k + 1) vc') (k + 1) (fun r => if r = k then A k else Ar r) (fun r => if r = k then C k else Cr r) L) := ho4
      have hb4 : Below w.heap.size w W4 := ((below_then hbr b12).alloc (by have := b12.size; omega) _).grown hg4 (by have := b12.size; simp; omega) (fun g h => (HO.out.own.lt g h).1)
      go_wp2
      refine fr_region (some x) n ca k wr.drew.heap.size va k vc va' (k + 1) vc' (A k) (L k).t.length (C k) y (L k).s (L k).f (wr.drew.alloc (.cells #[.slice (A k) (L k).t.length (C k), .int .i64 (L k).s, .bool (L k).f] 42)) W4 (fun W => ∀ p u, wr.cell? p = some u → W.cell? p = some u) (by kernel_rfl) rfl ⟨_, rfl, rfl, rfl, rfl, by kernel_rfl⟩ ⟨_, rfl, rfl, rfl, rfl, by kernel_rfl⟩ ⟨_, rfl, rfl, rfl, rfl, by kernel_rfl⟩ ⟨_, rfl, rfl, rfl, rfl, by kernel_rfl⟩ ⟨_, rfl, rfl, rfl, rfl, by kernel_rfl⟩ ⟨_, rfl, rfl, rfl, rfl, by kernel_rfl⟩ ⟨_, rfl, rfl, rfl, rfl, by kernel_rfl⟩ ⟨_, rfl, rfl, rfl, rfl, by kernel_rfl⟩ ⟨_, rfl, rfl, rfl, rfl, by kernel_rfl⟩ ⟨_, rfl, rfl, rfl, rfl, by kernel_rfl⟩ ⟨_, rfl, rfl, rfl, rfl, by kernel_rfl⟩ ⟨_, rfl, rfl, rfl, rfl, by kernel_rfl⟩ ⟨_, rfl, rfl, rfl, rfl, by kernel_rfl⟩ ⟨_, rfl, rfl, rfl, rfl, by kernel_rfl⟩ ⟨_, rfl, rfl, rfl, rfl, by kernel_rfl⟩ ⟨_, rfl, rfl, rfl, rfl, by kernel_rfl⟩ ⟨_, rfl, rfl, rfl, rfl, by kernel_rfl⟩ ⟨_, rfl, rfl, rfl, rfl, by kernel_rfl⟩ ⟨_, rfl, rfl, rfl, rfl, by kernel_rfl⟩ ⟨_, rfl, rfl, rfl, rfl, by kernel_rfl⟩ _ (fun o h => by obtain rfl := Option.some.inj h; rfl) (fun _ _ h => h) (fun _ _ h => below_cell (below_new b12 _) h) (run_index27 x y _ _ _ hlt ey) (run_field40_0 y) (fun W hW => run_load29 (hW _ _ d0)) (run_index27 x y _ _ _ hlt ey) (run_field40_1 y) (fun W hW => run_load2 (hW _ _ d1)) (run_index27 x y _ _ _ hlt ey) (run_field40_2 y) (fun W hW => run_load4 (hW _ _ d2)) (run_bm42 _ _ _ _ _) (run_lit22 _ _ _ _ _ _) hrun rfl rfl rfl (Nat.le_of_ble_eq_true rfl) ?_
      intro aF hsF hdF hkp hval
      have e3 : aF.tmps.getD 3 undef = .slice va' (k + 1) vc' := hval 19 3 (by decide) rfl
      have ep := frame_puts [11, 12, 13, 14, 15, 16, 17, 18, 19, 20, 21, 22, 23, 24, 25, 26, 27, 28, 29, 3] hsF hdF (fun s h => hkp s (fun i hi e => h (by
        rcases (show i = 0 ∨ i = 1 ∨ i = 2 ∨ i = 3 ∨ i = 4 ∨ i = 5 ∨ i = 6 ∨ i = 7 ∨ i = 8 ∨ i = 9 ∨ i = 10 ∨ i = 11 ∨ i = 12 ∨ i = 13 ∨ i = 14 ∨ i = 15 ∨ i = 16 ∨ i = 17 ∨ i = 18 ∨ i = 19 by omega) with rfl | rfl | rfl | rfl | rfl | rfl | rfl | rfl | rfl | rfl | rfl | rfl | rfl | rfl | rfl | rfl | rfl | rfl | rfl | rfl <;> (simp only [frD, Option.some.injEq, reduceCtorEq] at e; try (subst e; simp)))))
      simp only [List.foldl] at ep
      rw [e3] at ep
      clear hsF hdF hkp hval e3
      generalize aF.tmps.getD 11 undef = g11 at ep
      generalize aF.tmps.getD 12 undef = g12 at ep
      generalize aF.tmps.getD 13 undef = g13 at ep
      generalize aF.tmps.getD 14 undef = g14 at ep
      generalize aF.tmps.getD 15 undef = g15 at ep
      generalize aF.tmps.getD 16 undef = g16 at ep
      generalize aF.tmps.getD 17 undef = g17 at ep
      generalize aF.tmps.getD 18 undef = g18 at ep
      generalize aF.tmps.getD 19 undef = g19 at ep
      generalize aF.tmps.getD 20 undef = g20 at ep
      generalize aF.tmps.getD 21 undef = g21 at ep
      generalize aF.tmps.getD 22 undef = g22 at ep
      generalize aF.tmps.getD 23 undef = g23 at ep
      generalize aF.tmps.getD 24 undef = g24 at ep
      generalize aF.tmps.getD 25 undef = g25 at ep
      generalize aF.tmps.getD 26 undef = g26 at ep
      generalize aF.tmps.getD 27 undef = g27 at ep
      generalize aF.tmps.getD 28 undef = g28 at ep
      generalize aF.tmps.getD 29 undef = g29 at ep
      simp only [Act.put, List.setIfInBounds_toArray, List.set_cons_succ, List.set_cons_zero] at ep
      subst ep

      clear HO ho4 hrun rd hr d0 d1 d2 ey b12 hg4 hs4
      go_wp2
      go_roundw
      case rel => exact ⟨k + 1, va', vc', by omega, by go_num, rfl, hb4, _, _, HF⟩
      case measure => simp [intOf]; omega
    · obtain rfl : k = n := by omega
      obtain ⟨a', c', ev, hB, hnone, hc⟩ := HO.out.at_
      simp only [Value.slice.injEq, true_and] at ev
      obtain ⟨rfl, rfl⟩ := ev
      go_wp2
      go_ret
      exact ⟨⟨_, _, _, _, rfl, hB, hc, hnone⟩, hbr⟩

end Go.Proofs.Yteeljnibglnflaa
