/- The examples that the statements ask for first: they come out as they should. -/
import Derived.Test.YtipjjciafcpgfaaRows
import Derived.Test.YtipjjciafcpgfaaView
import Derived.Test.YtipjjciafcpgfaaOwn
import Derived.Test.YtipjjciafcpgfaaWorks
import Derived.Test.YtipjjciafcpgfaaTexts
import Derived.Test.YtipjjciafcpgfaaSums
import Derived.Test.YtipjjciafcpgfaaSeals
import Derived.Test.YtipjjciafcpgfaaOpens
import Derived.Test.YtipjjciafcpgfaaReader
import Derived.Test.YtipjjciafcpgfaaTwos
import Derived.Test.YtipjjciafcpgfaaRdWts
import Derived.Test.YtipjjciafcpgfaaRefWts
import Derived.WalkKit
import Derived.ProofKit
import Derived.OpenShut
import Derived.Below
import Derived.WalkLawsBesides
namespace Go.Proofs.Ytipjjciafcpgfaa
open Go.ChangeShapes Go.WideShapes Go.ChangeAt Go.RowKit
set_option linter.unusedVariables false

theorem lk_v : twoV ⟨#[2, 1, 2, 0, 1, 255]⟩ 0 = 258 := by decide +kernel
theorem lk_s : twoS ⟨#[2, 1, 2, 0, 1, 255]⟩ 0 = ⟨#[2, 0, 1, 255]⟩ := by decide +kernel
theorem lk_e : twoE ⟨#[2, 1, 2, 0, 1, 255]⟩ 0 = 0 := by decide +kernel
theorem lk_wv : wtV ⟨#[2, 0, 1, 255]⟩ 0 2 = [1, -1] := by decide +kernel
theorem lk_ws : wtS ⟨#[2, 0, 1, 255]⟩ 0 2 = ⟨#[]⟩ := by decide +kernel
theorem lk_we : wtE ⟨#[2, 0, 1, 255]⟩ 0 2 = 0 := by decide +kernel
theorem lk_oe : openE ⟨#[120]⟩ = 22 := by decide +kernel
theorem lk_ot : openT ⟨#[120]⟩ = ⟨#[]⟩ := by decide +kernel
theorem lk_two : two 258 = ⟨#[2, 1]⟩ := by decide +kernel
theorem lk_sum : sumZ ⟨#[97, 98]⟩ = 9667 := by decide +kernel
theorem lk_zv : twoV ⟨#[]⟩ 0 = 0 := by decide +kernel
theorem lk_zs : twoS ⟨#[]⟩ 0 = ⟨#[]⟩ := by decide +kernel
theorem lk_ze : twoE ⟨#[]⟩ 0 = 22 := by decide +kernel
theorem lk_end0 : endV ⟨#[]⟩ 0 = 0 := by decide +kernel
theorem lk_end1 : endV ⟨#[]⟩ 22 = 22 := by decide +kernel

set_option maxHeartbeats 1000000 in
theorem works_call (w : World) : Calls Try.prog 26 #[] w fun e w' => e = .returned (.bool true) ∧ Below w.heap.size w w' := by
  have k18 := newReader_call ⟨#[2, 1, 2, 0, 1, 255]⟩ w
  have r0 := Rd.new 55 w ⟨#[2, 1, 2, 0, 1, 255]⟩ 0
  have b0 := below_new (Below.refl w.heap.size w) (.cells #[.string ⟨#[2, 1, 2, 0, 1, 255]⟩, .int .i64 0] 55)
  have k19 := fun W (r : Rd 55 W w.heap.size ⟨#[2, 1, 2, 0, 1, 255]⟩ 0) => two_reader r
  have k22 := fun W (r : Rd 55 W w.heap.size ⟨#[2, 0, 1, 255]⟩ 0) => weights_reader r 2
  have k8 := fun W => open_call ⟨#[120]⟩ W (by decide)
  have k10 := fun W => two_call 258 W (by decide)
  have k14 := fun W => sum_call ⟨#[97, 98]⟩ W (by decide)
  have k24 := fun W (r : Rd 55 W w.heap.size ⟨#[]⟩ 0) => end_reader r
  have k19' := fun W (r : Rd 55 W w.heap.size ⟨#[]⟩ 0) => two_reader r
  have k24' := fun W (r : Rd 55 W w.heap.size ⟨#[]⟩ 22) => end_reader r
  rw [lk_v, lk_s, lk_e] at k19
  rw [lk_wv, lk_ws, lk_we] at k22
  rw [lk_oe, lk_ot] at k8
  rw [lk_two] at k10
  rw [lk_sum] at k14
  rw [lk_end0] at k24
  rw [lk_end1] at k24'
  rw [lk_zv, lk_zs, lk_ze] at k19'
  have l2 := fun W g (hg : g = W.heap.size) => lit2 .i8 W 49 g hg 1 (-1) (by decide) (by decide)
  go_enter Try.func26, Try.ntmps26
  go_wp2_with (first
    | (go_at_call 18; refine k18.mono ?_; rintro e W1 ⟨rfl, hw⟩; rw [← hw] at r0 b0; clear hw)
    | (go_at_call 19; refine (k19 _ r0).mono ?_; rintro e W2 ⟨rfl, r1, o1⟩; replace b0 := Only.below b0 (Nat.le_refl _) b0.size o1; clear r0 o1)
    | (go_at_call 22; refine (k22 _ r1).mono ?_; rintro e W3 ⟨⟨p3, m3, q3, rfl, rd3, -⟩, r2, o1⟩; replace b0 := Only.below b0 (Nat.le_refl _) b0.size o1; clear r1 o1)
    | (go_at_call 8; refine (k8 _).mono ?_; rintro e W4 ⟨rfl, hb⟩; replace rd3 := rd3.below hb; replace r2 := r2.kept hb; replace b0 := below_then b0 hb; clear hb)
    | (go_at_call 10; refine (k10 _).mono ?_; rintro e W5 ⟨rfl, hb⟩; replace hb := below_one hb; replace rd3 := rd3.below hb; replace r2 := r2.kept hb; replace b0 := below_then b0 hb; clear hb)
    | (go_at_call 14; refine (k14 _).mono ?_; rintro e W6 ⟨rfl, hw⟩; obtain rfl := hw.symm)
    | (go_at_call 21; refine (same_call _ _ _ [1, -1] _ _ _ _ (rd3.below (below_new (Below.refl _ _) _)) (l2 _ _ rfl)).mono ?_; rintro e W7 ⟨rfl, hq⟩; replace r2 := (r2.kept (below_new (Below.refl _ _) _)).kept (below_drew (Below.refl _ _) hq); replace b0 := below_drew (below_new b0 _) hq; clear hq)
    | (go_at_call 24; refine (k24 _ r2).mono ?_; rintro e W8 ⟨rfl, hw⟩; obtain rfl := hw.symm)
    | (go_at_call 19; refine (k19' _ r2).mono ?_; rintro e W9 ⟨rfl, r3, o1⟩; replace b0 := Only.below b0 (Nat.le_refl _) b0.size o1; clear r2 o1)
    | (go_at_call 24; refine (k24' _ r3).mono ?_; rintro e W10 ⟨rfl, hw⟩; obtain rfl := hw.symm))
  go_ret
  exact ⟨rfl, b0⟩

end Go.Proofs.Ytipjjciafcpgfaa
