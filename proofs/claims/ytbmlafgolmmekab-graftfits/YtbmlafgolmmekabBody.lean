/- What stands behind the letters is read: the program's decodeBody. -/
import Derived.Test.YtbmlafgolmmekabRows
import Derived.Test.YtbmlafgolmmekabView
import Derived.Test.YtbmlafgolmmekabOwn
import Derived.Test.YtbmlafgolmmekabCfg
import Derived.Test.YtbmlafgolmmekabCfgs
import Derived.Test.YtbmlafgolmmekabCfgRef
import Derived.Test.YtbmlafgolmmekabHeld
import Derived.Test.YtbmlafgolmmekabReader
import Derived.Test.YtbmlafgolmmekabSls
import Derived.Test.YtbmlafgolmmekabSteps
import Derived.Test.YtbmlafgolmmekabInv
import Derived.Test.YtbmlafgolmmekabTyped
import Derived.Test.YtbmlafgolmmekabAds
import Derived.Test.YtbmlafgolmmekabRanges
import Derived.Test.YtbmlafgolmmekabTexts
import Derived.Test.YtbmlafgolmmekabSums
import Derived.Test.YtbmlafgolmmekabSeals
import Derived.Test.YtbmlafgolmmekabWts
import Derived.Test.YtbmlafgolmmekabTwos
import Derived.Test.YtbmlafgolmmekabRdWts
import Derived.Test.YtbmlafgolmmekabCheck
import Derived.Test.YtbmlafgolmmekabPlan
import Derived.Test.YtbmlafgolmmekabFlat
import Derived.Test.YtbmlafgolmmekabShape
import Derived.Test.YtbmlafgolmmekabPush
import Derived.Test.YtbmlafgolmmekabShapes
import Derived.WalkKit
import Derived.ProofKit
import Derived.OpenShut
import Derived.Below
import Derived.WalkLawsBesides
import Derived.Deep.QuietTactic
import Derived.BigQuiet
import Derived.Lib.QuietBelow
import Derived.Deep.RegionHeld3
namespace Go.Proofs.Ytbmlafgolmmekab
open Go.ChangeShapes Go.WideShapes Go.ChangeAt Go.RowKit
open Go.Sort hiding Below
set_option linter.unusedVariables false
set_option linter.unusedSimpArgs false


theorem Blk.other' {t : TypeId} {w w' : World} {b c : Nat} {cs : Array Value} (h : Blk t w b cs) (o : Only c w w') (hc : b ≠ c) : Blk t w' b cs := (o.block b h.lt (fun e => hc (by simpa using e))).trans h

set_option maxHeartbeats 4000000 in
set_option maxRecDepth 20000 in
theorem body_end (d h l v u x t n : Int) (S0 S1 S2 S3 : ByteArray) (E1 E2 E3 EE V0 V1 Z : Int) (ws : List Int) (w : World)
    (c0 : ∀ W, Rd 81 W (w.heap.size + 1 + 1) S0 0 → Calls Try.prog 38 #[.pointer (some ⟨w.heap.size + 1 + 1, 0, none⟩)] W fun r w' => r = .returned (.int .i64 V0) ∧ Rd 81 w' (w.heap.size + 1 + 1) S1 E1 ∧ Only (w.heap.size + 1 + 1) W w')
    (c1 : ∀ W, Rd 81 W (w.heap.size + 1 + 1) S1 E1 → Calls Try.prog 38 #[.pointer (some ⟨w.heap.size + 1 + 1, 0, none⟩)] W fun r w' => r = .returned (.int .i64 V1) ∧ Rd 81 w' (w.heap.size + 1 + 1) S2 E2 ∧ Only (w.heap.size + 1 + 1) W w')
    (c2 : ∀ W, Rd 81 W (w.heap.size + 1 + 1) S2 E2 → Calls Try.prog 39 #[.pointer (some ⟨w.heap.size + 1 + 1, 0, none⟩), .int .i64 Z] W fun r w' => (∃ s : SL, r = .returned (.slice s.a s.n s.c) ∧ IsS w' s ws) ∧ Rd 81 w' (w.heap.size + 1 + 1) S3 E3 ∧ Only (w.heap.size + 1 + 1) W w')
    (c3 : ∀ W, Rd 81 W (w.heap.size + 1 + 1) S3 E3 → Calls Try.prog 40 #[.pointer (some ⟨w.heap.size + 1 + 1, 0, none⟩)] W fun r w' => r = .returned (.int .i64 EE) ∧ w' = W)
    (k45 : ∀ W, Calls Try.prog 31 #[.int .i64 V0, .agg #[.int .i64 d, .int .i64 h, .int .i64 l, .int .i64 v, .int .i64 u, .int .i64 x, .int .i64 t, .int .i64 n]] W fun e w' => e = .returned (.int .i64 Z) ∧ Below W.heap.size W w') (hE : (EE == 0) = false) :
    Calls Try.prog 25 #[.string S0, .agg #[.int .i64 d, .int .i64 h, .int .i64 l, .int .i64 v, .int .i64 u, .int .i64 x, .int .i64 t, .int .i64 n]] w fun e w' => e = .returned (.tuple #[.agg #[.int .i64 0, .int .i64 0, nilS], .int .i64 1]) ∧ Below w.heap.size w w' := by
  have hb := below_new (below_new (Below.refl w.heap.size w) (.cells #[.int .i64 d, .int .i64 h, .int .i64 l, .int .i64 v, .int .i64 u, .int .i64 x, .int .i64 t, .int .i64 n] 26)) (.cells #[.int .i64 0, .int .i64 0, nilS] 24)
  have qc : Blk 26 ((w.alloc (.cells #[.int .i64 d, .int .i64 h, .int .i64 l, .int .i64 v, .int .i64 u, .int .i64 x, .int .i64 t, .int .i64 n] 26)).alloc (.cells #[.int .i64 0, .int .i64 0, nilS] 24)) w.heap.size #[.int .i64 d, .int .i64 h, .int .i64 l, .int .i64 v, .int .i64 u, .int .i64 x, .int .i64 t, .int .i64 n] := (Blk.new 26 w _).kept (below_new (Below.refl _ _) _)
  have qr : Blk 24 ((w.alloc (.cells #[.int .i64 d, .int .i64 h, .int .i64 l, .int .i64 v, .int .i64 u, .int .i64 x, .int .i64 t, .int .i64 n] 26)).alloc (.cells #[.int .i64 0, .int .i64 0, nilS] 24)) (w.heap.size + 1) #[.int .i64 0, .int .i64 0, nilS] := Blk.new_at 24 (w.alloc _) _ _ (by simp)
  have r : Rd 81 (((w.alloc (.cells #[.int .i64 d, .int .i64 h, .int .i64 l, .int .i64 v, .int .i64 u, .int .i64 x, .int .i64 t, .int .i64 n] 26)).alloc (.cells #[.int .i64 0, .int .i64 0, nilS] 24)).alloc (.cells #[.string S0, .int .i64 0] 81)) (w.heap.size + 1 + 1) S0 0 := by
    have := Rd.new 81 ((w.alloc (.cells #[.int .i64 d, .int .i64 h, .int .i64 l, .int .i64 v, .int .i64 u, .int .i64 x, .int .i64 t, .int .i64 n] 26)).alloc (.cells #[.int .i64 0, .int .i64 0, nilS] 24)) S0 0
    rwa [show ((w.alloc (.cells #[.int .i64 d, .int .i64 h, .int .i64 l, .int .i64 v, .int .i64 u, .int .i64 x, .int .i64 t, .int .i64 n] 26)).alloc (.cells #[.int .i64 0, .int .i64 0, nilS] 24)).heap.size = w.heap.size + 1 + 1 by simp] at this
  have b3 := below_new (Below.refl ((w.alloc (.cells #[.int .i64 d, .int .i64 h, .int .i64 l, .int .i64 v, .int .i64 u, .int .i64 x, .int .i64 t, .int .i64 n] 26)).alloc (.cells #[.int .i64 0, .int .i64 0, nilS] 24)).heap.size ((w.alloc (.cells #[.int .i64 d, .int .i64 h, .int .i64 l, .int .i64 v, .int .i64 u, .int .i64 x, .int .i64 t, .int .i64 n] 26)).alloc (.cells #[.int .i64 0, .int .i64 0, nilS] 24))) (.cells #[.string S0, .int .i64 0] 81)
  replace qc := qc.kept b3
  replace qr := qr.kept b3
  replace hb := below_then hb b3
  obtain ⟨X0, eX⟩ : ∃ X0, (((w.alloc (.cells #[.int .i64 d, .int .i64 h, .int .i64 l, .int .i64 v, .int .i64 u, .int .i64 x, .int .i64 t, .int .i64 n] 26)).alloc (.cells #[.int .i64 0, .int .i64 0, nilS] 24)).alloc (.cells #[.string S0, .int .i64 0] 81)) = X0 := ⟨_, rfl⟩
  rw [eX] at r qc qr hb
  have HX := hidden_ eX
  clear eX b3
  have k57 := newReader_call S0
  go_enter Try.func25, Try.ntmps25
  go_wp2_with (first
    | (go_at_call 37; refine (k57 _).mono ?_; rintro e W1 ⟨rfl, h1⟩; subst h1; rw [HX.out]; clear k57)
    | (go_at_call 38; refine (c0 _ r).mono ?_; rintro e W2 ⟨rfl, r1, o1⟩; replace qc := qc.other' o1 (by omega); replace qr := qr.other' o1 (by omega); replace hb := Only.below hb (by omega) hb.size o1; replace r := r1; clear o1 r1 c0)
    | (go_at_call 38; refine (c1 _ r).mono ?_; rintro e W3 ⟨rfl, r1, o1⟩; replace qc := qc.other' o1 (by omega); replace qr := qr.other' o1 (by omega); replace hb := Only.below hb (by omega) hb.size o1; replace r := r1; clear o1 r1 c1; obtain ⟨c0', c1', c2', c3', c4', c5', c6', c7'⟩ := qc.cfg)
    | (go_at_call 31; refine (k45 _).mono ?_; rintro e W4 ⟨rfl, h1⟩; replace hb := below_then hb h1; replace qc := qc.kept h1; replace qr := qr.kept h1; replace r := r.kept h1; clear h1 k45; clear c0' c1' c2' c3' c4' c5' c6' c7')
    | (go_at_call 39; refine (c2 _ r).mono ?_; rintro e W5 ⟨⟨s, rfl, is⟩, r1, o1⟩; replace qc := qc.other' o1 (by omega); replace qr := qr.other' o1 (by omega); replace hb := Only.below hb (by omega) hb.size o1; replace r := r1; clear o1 r1 c2)
    | (go_at_call 40; refine (c3 _ r).mono ?_; rintro e W6 ⟨rfl, h4⟩; obtain rfl := h4.symm; obtain ⟨c0', c1', c2', c3', c4', c5', c6', c7'⟩ := qc.cfg; obtain ⟨z0, z1, z2⟩ := qr.c3; obtain ⟨o0, o1, o2⟩ := qr.o3; clear c3))
  obtain ⟨W6, eW, q6, only, hz⟩ := set3 qr (.int .i64 0) (.int .i64 0) nilS
  rw [eW]
  refine bodyPost_ret (v := .tuple #[.agg #[.int .i64 0, .int .i64 0, nilS], .int .i64 1]) ?_ rfl ⟨rfl, Only.below hb (Nat.le_succ _) hb.size only⟩
  obtain ⟨y0, y1, y2⟩ := q6.c3
  simp [results, Try.results25, go_sem, y0, y1, y2]

set_option maxHeartbeats 4000000 in
set_option maxRecDepth 20000 in
theorem body_bad (d h l v u x t n : Int) (S0 S1 S2 S3 : ByteArray) (E1 E2 E3 EE V0 V1 Z : Int) (ws : List Int) (w : World)
    (c0 : ∀ W, Rd 81 W (w.heap.size + 1 + 1) S0 0 → Calls Try.prog 38 #[.pointer (some ⟨w.heap.size + 1 + 1, 0, none⟩)] W fun r w' => r = .returned (.int .i64 V0) ∧ Rd 81 w' (w.heap.size + 1 + 1) S1 E1 ∧ Only (w.heap.size + 1 + 1) W w')
    (c1 : ∀ W, Rd 81 W (w.heap.size + 1 + 1) S1 E1 → Calls Try.prog 38 #[.pointer (some ⟨w.heap.size + 1 + 1, 0, none⟩)] W fun r w' => r = .returned (.int .i64 V1) ∧ Rd 81 w' (w.heap.size + 1 + 1) S2 E2 ∧ Only (w.heap.size + 1 + 1) W w')
    (c2 : ∀ W, Rd 81 W (w.heap.size + 1 + 1) S2 E2 → Calls Try.prog 39 #[.pointer (some ⟨w.heap.size + 1 + 1, 0, none⟩), .int .i64 Z] W fun r w' => (∃ s : SL, r = .returned (.slice s.a s.n s.c) ∧ IsS w' s ws) ∧ Rd 81 w' (w.heap.size + 1 + 1) S3 E3 ∧ Only (w.heap.size + 1 + 1) W w')
    (c3 : ∀ W, Rd 81 W (w.heap.size + 1 + 1) S3 E3 → Calls Try.prog 40 #[.pointer (some ⟨w.heap.size + 1 + 1, 0, none⟩)] W fun r w' => r = .returned (.int .i64 EE) ∧ w' = W)
    (k45 : ∀ W, Calls Try.prog 31 #[.int .i64 V0, .agg #[.int .i64 d, .int .i64 h, .int .i64 l, .int .i64 v, .int .i64 u, .int .i64 x, .int .i64 t, .int .i64 n]] W fun e w' => e = .returned (.int .i64 Z) ∧ Below W.heap.size W w') (hE : EE = 0) (D R' S' : Int) (hD : (D == 0) = false)
    (k20 : ∀ W (s : SL), IsS W s ws → Calls Try.prog 13 #[.int .i64 V0, .int .i64 V1, .agg #[.int .i64 d, .int .i64 h, .int .i64 l, .int .i64 v, .int .i64 u, .int .i64 x, .int .i64 t, .int .i64 n], .slice s.a s.n s.c] W fun e w' => (∃ L : SL, e = .returned (.tuple #[.agg #[.int .i64 R', .int .i64 S', .slice L.a L.n L.c], .int .i64 D])) ∧ Below W.heap.size W w') :
    Calls Try.prog 25 #[.string S0, .agg #[.int .i64 d, .int .i64 h, .int .i64 l, .int .i64 v, .int .i64 u, .int .i64 x, .int .i64 t, .int .i64 n]] w fun e w' => e = .returned (.tuple #[.agg #[.int .i64 0, .int .i64 0, nilS], .int .i64 1]) ∧ Below w.heap.size w w' := by
  subst hE
  have hb := below_new (below_new (Below.refl w.heap.size w) (.cells #[.int .i64 d, .int .i64 h, .int .i64 l, .int .i64 v, .int .i64 u, .int .i64 x, .int .i64 t, .int .i64 n] 26)) (.cells #[.int .i64 0, .int .i64 0, nilS] 24)
  have qc : Blk 26 ((w.alloc (.cells #[.int .i64 d, .int .i64 h, .int .i64 l, .int .i64 v, .int .i64 u, .int .i64 x, .int .i64 t, .int .i64 n] 26)).alloc (.cells #[.int .i64 0, .int .i64 0, nilS] 24)) w.heap.size #[.int .i64 d, .int .i64 h, .int .i64 l, .int .i64 v, .int .i64 u, .int .i64 x, .int .i64 t, .int .i64 n] := (Blk.new 26 w _).kept (below_new (Below.refl _ _) _)
  have qr : Blk 24 ((w.alloc (.cells #[.int .i64 d, .int .i64 h, .int .i64 l, .int .i64 v, .int .i64 u, .int .i64 x, .int .i64 t, .int .i64 n] 26)).alloc (.cells #[.int .i64 0, .int .i64 0, nilS] 24)) (w.heap.size + 1) #[.int .i64 0, .int .i64 0, nilS] := Blk.new_at 24 (w.alloc _) _ _ (by simp)
  have r : Rd 81 (((w.alloc (.cells #[.int .i64 d, .int .i64 h, .int .i64 l, .int .i64 v, .int .i64 u, .int .i64 x, .int .i64 t, .int .i64 n] 26)).alloc (.cells #[.int .i64 0, .int .i64 0, nilS] 24)).alloc (.cells #[.string S0, .int .i64 0] 81)) (w.heap.size + 1 + 1) S0 0 := by
    have := Rd.new 81 ((w.alloc (.cells #[.int .i64 d, .int .i64 h, .int .i64 l, .int .i64 v, .int .i64 u, .int .i64 x, .int .i64 t, .int .i64 n] 26)).alloc (.cells #[.int .i64 0, .int .i64 0, nilS] 24)) S0 0
    rwa [show ((w.alloc (.cells #[.int .i64 d, .int .i64 h, .int .i64 l, .int .i64 v, .int .i64 u, .int .i64 x, .int .i64 t, .int .i64 n] 26)).alloc (.cells #[.int .i64 0, .int .i64 0, nilS] 24)).heap.size = w.heap.size + 1 + 1 by simp] at this
  have b3 := below_new (Below.refl ((w.alloc (.cells #[.int .i64 d, .int .i64 h, .int .i64 l, .int .i64 v, .int .i64 u, .int .i64 x, .int .i64 t, .int .i64 n] 26)).alloc (.cells #[.int .i64 0, .int .i64 0, nilS] 24)).heap.size ((w.alloc (.cells #[.int .i64 d, .int .i64 h, .int .i64 l, .int .i64 v, .int .i64 u, .int .i64 x, .int .i64 t, .int .i64 n] 26)).alloc (.cells #[.int .i64 0, .int .i64 0, nilS] 24))) (.cells #[.string S0, .int .i64 0] 81)
  replace qc := qc.kept b3
  replace qr := qr.kept b3
  replace hb := below_then hb b3
  obtain ⟨X0, eX⟩ : ∃ X0, (((w.alloc (.cells #[.int .i64 d, .int .i64 h, .int .i64 l, .int .i64 v, .int .i64 u, .int .i64 x, .int .i64 t, .int .i64 n] 26)).alloc (.cells #[.int .i64 0, .int .i64 0, nilS] 24)).alloc (.cells #[.string S0, .int .i64 0] 81)) = X0 := ⟨_, rfl⟩
  rw [eX] at r qc qr hb
  have HX := hidden_ eX
  clear eX b3
  have k57 := newReader_call S0
  go_enter Try.func25, Try.ntmps25
  go_wp2_with (first
    | (go_at_call 37; refine (k57 _).mono ?_; rintro e W1 ⟨rfl, h1⟩; subst h1; rw [HX.out]; clear k57)
    | (go_at_call 38; refine (c0 _ r).mono ?_; rintro e W2 ⟨rfl, r1, o1⟩; replace qc := qc.other' o1 (by omega); replace qr := qr.other' o1 (by omega); replace hb := Only.below hb (by omega) hb.size o1; replace r := r1; clear o1 r1 c0)
    | (go_at_call 38; refine (c1 _ r).mono ?_; rintro e W3 ⟨rfl, r1, o1⟩; replace qc := qc.other' o1 (by omega); replace qr := qr.other' o1 (by omega); replace hb := Only.below hb (by omega) hb.size o1; replace r := r1; clear o1 r1 c1; obtain ⟨c0', c1', c2', c3', c4', c5', c6', c7'⟩ := qc.cfg)
    | (go_at_call 31; refine (k45 _).mono ?_; rintro e W4 ⟨rfl, h1⟩; replace hb := below_then hb h1; replace qc := qc.kept h1; replace qr := qr.kept h1; replace r := r.kept h1; clear h1 k45; clear c0' c1' c2' c3' c4' c5' c6' c7')
    | (go_at_call 39; refine (c2 _ r).mono ?_; rintro e W5 ⟨⟨s, rfl, is⟩, r1, o1⟩; replace qc := qc.other' o1 (by omega); replace qr := qr.other' o1 (by omega); replace hb := Only.below hb (by omega) hb.size o1; replace r := r1; clear o1 r1 c2)
    | (go_at_call 40; refine (c3 _ r).mono ?_; rintro e W6 ⟨rfl, h4⟩; obtain rfl := h4.symm; obtain ⟨c0', c1', c2', c3', c4', c5', c6', c7'⟩ := qc.cfg; obtain ⟨z0, z1, z2⟩ := qr.c3; obtain ⟨o0, o1, o2⟩ := qr.o3; clear c3)
    | (go_at_call 13; refine (k20 _ s is).mono ?_; rintro e W7 ⟨⟨L, rfl⟩, h1⟩; have b1 := below_then h1 (below_new (Below.refl _ _) (.cells #[.int .i64 R', .int .i64 S', .slice L.a L.n L.c] 24)); replace hb := below_then hb b1; replace qr := qr.kept b1; clear h1 b1 k20 c0' c1' c2' c3' c4' c5' c6' c7' z0 z1 z2 o0 o1 o2; obtain ⟨z0, z1, z2⟩ := qr.c3; obtain ⟨o0, o1, o2⟩ := qr.o3))
  obtain ⟨W6, eW, q6, only, hz⟩ := set3 qr (.int .i64 0) (.int .i64 0) nilS
  rw [eW]
  refine bodyPost_ret (v := .tuple #[.agg #[.int .i64 0, .int .i64 0, nilS], .int .i64 1]) ?_ rfl ⟨rfl, Only.below hb (Nat.le_succ _) hb.size only⟩
  obtain ⟨y0, y1, y2⟩ := q6.c3
  simp [results, Try.results25, go_sem, y0, y1, y2]

set_option maxHeartbeats 4000000 in
set_option maxRecDepth 20000 in
theorem body_good (d h l v u x t n : Int) (S0 S1 S2 S3 : ByteArray) (E1 E2 E3 EE V0 V1 Z : Int) (ws : List Int) (w : World)
    (c0 : ∀ W, Rd 81 W (w.heap.size + 1 + 1) S0 0 → Calls Try.prog 38 #[.pointer (some ⟨w.heap.size + 1 + 1, 0, none⟩)] W fun r w' => r = .returned (.int .i64 V0) ∧ Rd 81 w' (w.heap.size + 1 + 1) S1 E1 ∧ Only (w.heap.size + 1 + 1) W w')
    (c1 : ∀ W, Rd 81 W (w.heap.size + 1 + 1) S1 E1 → Calls Try.prog 38 #[.pointer (some ⟨w.heap.size + 1 + 1, 0, none⟩)] W fun r w' => r = .returned (.int .i64 V1) ∧ Rd 81 w' (w.heap.size + 1 + 1) S2 E2 ∧ Only (w.heap.size + 1 + 1) W w')
    (c2 : ∀ W, Rd 81 W (w.heap.size + 1 + 1) S2 E2 → Calls Try.prog 39 #[.pointer (some ⟨w.heap.size + 1 + 1, 0, none⟩), .int .i64 Z] W fun r w' => (∃ s : SL, r = .returned (.slice s.a s.n s.c) ∧ IsS w' s ws) ∧ Rd 81 w' (w.heap.size + 1 + 1) S3 E3 ∧ Only (w.heap.size + 1 + 1) W w')
    (c3 : ∀ W, Rd 81 W (w.heap.size + 1 + 1) S3 E3 → Calls Try.prog 40 #[.pointer (some ⟨w.heap.size + 1 + 1, 0, none⟩)] W fun r w' => r = .returned (.int .i64 EE) ∧ w' = W)
    (k45 : ∀ W, Calls Try.prog 31 #[.int .i64 V0, .agg #[.int .i64 d, .int .i64 h, .int .i64 l, .int .i64 v, .int .i64 u, .int .i64 x, .int .i64 t, .int .i64 n]] W fun e w' => e = .returned (.int .i64 Z) ∧ Below W.heap.size W w') (hE : EE = 0) (m : AdV)
    (k20 : ∀ W (s : SL), IsS W s ws → Calls Try.prog 13 #[.int .i64 V0, .int .i64 V1, .agg #[.int .i64 d, .int .i64 h, .int .i64 l, .int .i64 v, .int .i64 u, .int .i64 x, .int .i64 t, .int .i64 n], .slice s.a s.n s.c] W fun e w' => ∃ (L : SL) (Y : Nat → Nat → SL), e = .returned (.tuple #[.agg #[.int .i64 V0, .int .i64 V1, .slice L.a L.n L.c], .int .i64 0]) ∧ NewA W.heap.size w' L Y m ∧ Below W.heap.size W w') :
    Calls Try.prog 25 #[.string S0, .agg #[.int .i64 d, .int .i64 h, .int .i64 l, .int .i64 v, .int .i64 u, .int .i64 x, .int .i64 t, .int .i64 n]] w fun e w' => ∃ (L : SL) (Y : Nat → Nat → SL), e = .returned (.tuple #[.agg #[.int .i64 V0, .int .i64 V1, .slice L.a L.n L.c], .int .i64 0]) ∧ NewA w.heap.size w' L Y m ∧ Below w.heap.size w w' := by
  subst hE
  have hb := below_new (below_new (Below.refl w.heap.size w) (.cells #[.int .i64 d, .int .i64 h, .int .i64 l, .int .i64 v, .int .i64 u, .int .i64 x, .int .i64 t, .int .i64 n] 26)) (.cells #[.int .i64 0, .int .i64 0, nilS] 24)
  have qc : Blk 26 ((w.alloc (.cells #[.int .i64 d, .int .i64 h, .int .i64 l, .int .i64 v, .int .i64 u, .int .i64 x, .int .i64 t, .int .i64 n] 26)).alloc (.cells #[.int .i64 0, .int .i64 0, nilS] 24)) w.heap.size #[.int .i64 d, .int .i64 h, .int .i64 l, .int .i64 v, .int .i64 u, .int .i64 x, .int .i64 t, .int .i64 n] := (Blk.new 26 w _).kept (below_new (Below.refl _ _) _)
  have qr : Blk 24 ((w.alloc (.cells #[.int .i64 d, .int .i64 h, .int .i64 l, .int .i64 v, .int .i64 u, .int .i64 x, .int .i64 t, .int .i64 n] 26)).alloc (.cells #[.int .i64 0, .int .i64 0, nilS] 24)) (w.heap.size + 1) #[.int .i64 0, .int .i64 0, nilS] := Blk.new_at 24 (w.alloc _) _ _ (by simp)
  have r : Rd 81 (((w.alloc (.cells #[.int .i64 d, .int .i64 h, .int .i64 l, .int .i64 v, .int .i64 u, .int .i64 x, .int .i64 t, .int .i64 n] 26)).alloc (.cells #[.int .i64 0, .int .i64 0, nilS] 24)).alloc (.cells #[.string S0, .int .i64 0] 81)) (w.heap.size + 1 + 1) S0 0 := by
    have := Rd.new 81 ((w.alloc (.cells #[.int .i64 d, .int .i64 h, .int .i64 l, .int .i64 v, .int .i64 u, .int .i64 x, .int .i64 t, .int .i64 n] 26)).alloc (.cells #[.int .i64 0, .int .i64 0, nilS] 24)) S0 0
    rwa [show ((w.alloc (.cells #[.int .i64 d, .int .i64 h, .int .i64 l, .int .i64 v, .int .i64 u, .int .i64 x, .int .i64 t, .int .i64 n] 26)).alloc (.cells #[.int .i64 0, .int .i64 0, nilS] 24)).heap.size = w.heap.size + 1 + 1 by simp] at this
  have b3 := below_new (Below.refl ((w.alloc (.cells #[.int .i64 d, .int .i64 h, .int .i64 l, .int .i64 v, .int .i64 u, .int .i64 x, .int .i64 t, .int .i64 n] 26)).alloc (.cells #[.int .i64 0, .int .i64 0, nilS] 24)).heap.size ((w.alloc (.cells #[.int .i64 d, .int .i64 h, .int .i64 l, .int .i64 v, .int .i64 u, .int .i64 x, .int .i64 t, .int .i64 n] 26)).alloc (.cells #[.int .i64 0, .int .i64 0, nilS] 24))) (.cells #[.string S0, .int .i64 0] 81)
  replace qc := qc.kept b3
  replace qr := qr.kept b3
  replace hb := below_then hb b3
  obtain ⟨X0, eX⟩ : ∃ X0, (((w.alloc (.cells #[.int .i64 d, .int .i64 h, .int .i64 l, .int .i64 v, .int .i64 u, .int .i64 x, .int .i64 t, .int .i64 n] 26)).alloc (.cells #[.int .i64 0, .int .i64 0, nilS] 24)).alloc (.cells #[.string S0, .int .i64 0] 81)) = X0 := ⟨_, rfl⟩
  rw [eX] at r qc qr hb
  have HX := hidden_ eX
  clear eX b3
  have k57 := newReader_call S0
  go_enter Try.func25, Try.ntmps25
  go_wp2_with (first
    | (go_at_call 37; refine (k57 _).mono ?_; rintro e W1 ⟨rfl, h1⟩; subst h1; rw [HX.out]; clear k57)
    | (go_at_call 38; refine (c0 _ r).mono ?_; rintro e W2 ⟨rfl, r1, o1⟩; replace qc := qc.other' o1 (by omega); replace qr := qr.other' o1 (by omega); replace hb := Only.below hb (by omega) hb.size o1; replace r := r1; clear o1 r1 c0)
    | (go_at_call 38; refine (c1 _ r).mono ?_; rintro e W3 ⟨rfl, r1, o1⟩; replace qc := qc.other' o1 (by omega); replace qr := qr.other' o1 (by omega); replace hb := Only.below hb (by omega) hb.size o1; replace r := r1; clear o1 r1 c1; obtain ⟨c0', c1', c2', c3', c4', c5', c6', c7'⟩ := qc.cfg)
    | (go_at_call 31; refine (k45 _).mono ?_; rintro e W4 ⟨rfl, h1⟩; replace hb := below_then hb h1; replace qc := qc.kept h1; replace qr := qr.kept h1; replace r := r.kept h1; clear h1 k45; clear c0' c1' c2' c3' c4' c5' c6' c7')
    | (go_at_call 39; refine (c2 _ r).mono ?_; rintro e W5 ⟨⟨s, rfl, is⟩, r1, o1⟩; replace qc := qc.other' o1 (by omega); replace qr := qr.other' o1 (by omega); replace hb := Only.below hb (by omega) hb.size o1; replace r := r1; clear o1 r1 c2)
    | (go_at_call 40; refine (c3 _ r).mono ?_; rintro e W6 ⟨rfl, h4⟩; obtain rfl := h4.symm; obtain ⟨c0', c1', c2', c3', c4', c5', c6', c7'⟩ := qc.cfg; obtain ⟨z0, z1, z2⟩ := qr.c3; obtain ⟨o0, o1, o2⟩ := qr.o3; clear c3)
    | (go_at_call 13; refine (k20 _ s is).mono ?_; rintro e W7 ⟨L, Y, rfl, hN, h1⟩; have lt1 := qr.lt; have b2 := below_new (Below.refl W7.heap.size W7) (.cells #[.int .i64 V0, .int .i64 V1, .slice L.a L.n L.c] 24); have qx : Blk 24 (W7.alloc (.cells #[.int .i64 V0, .int .i64 V1, .slice L.a L.n L.c] 24)) W7.heap.size #[.int .i64 V0, .int .i64 V1, .slice L.a L.n L.c] := Blk.new 24 W7 _; obtain ⟨W8, eW8⟩ : ∃ W, W7.alloc (.cells #[.int .i64 V0, .int .i64 V1, .slice L.a L.n L.c] 24) = W := ⟨_, rfl⟩; rw [eW8] at b2 qx; have b1 := below_then h1 b2; replace hb := below_then hb b1; replace qr := qr.kept b1; have nw := hN.below b2; clear h1 b1 b2 hN k20 c0' c1' c2' c3' c4' c5' c6' c7' z0 z1 z2 o0 o1 o2; obtain ⟨z0, z1, z2⟩ := qr.c3; obtain ⟨o0, o1, o2⟩ := qr.o3; obtain ⟨y0, y1, y2⟩ := qx.c3))
  obtain ⟨W9, eW, q6, only, hz⟩ := set3 qr (.int .i64 V0) (.int .i64 V1) (.slice L.a L.n L.c)
  rw [eW]
  refine bodyPost_ret (v := .tuple #[.agg #[.int .i64 V0, .int .i64 V1, .slice L.a L.n L.c], .int .i64 0]) ?_ rfl ⟨L, Y, rfl, (nw.only only lt1).le (by have := hb.size; omega), Only.below hb (Nat.le_succ _) hb.size only⟩
  obtain ⟨u0, u1, u2⟩ := q6.c3
  simp [results, Try.results25, go_sem, u0, u1, u2]

end Go.Proofs.Ytbmlafgolmmekab
