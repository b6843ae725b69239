/- Decode of any text for any configuration: the document's. -/
import Derived.Test.YtbmlafgolmmekaaRows
import Derived.Test.YtbmlafgolmmekaaView
import Derived.Test.YtbmlafgolmmekaaOwn
import Derived.Test.YtbmlafgolmmekaaCfg
import Derived.Test.YtbmlafgolmmekaaCfgs
import Derived.Test.YtbmlafgolmmekaaCfgRef
import Derived.Test.YtbmlafgolmmekaaHeld
import Derived.Test.YtbmlafgolmmekaaReader
import Derived.Test.YtbmlafgolmmekaaSls
import Derived.Test.YtbmlafgolmmekaaSteps
import Derived.Test.YtbmlafgolmmekaaInv
import Derived.Test.YtbmlafgolmmekaaTyped
import Derived.Test.YtbmlafgolmmekaaAds
import Derived.Test.YtbmlafgolmmekaaRanges
import Derived.Test.YtbmlafgolmmekaaTexts
import Derived.Test.YtbmlafgolmmekaaSums
import Derived.Test.YtbmlafgolmmekaaSeals
import Derived.Test.YtbmlafgolmmekaaOpens
import Derived.Test.YtbmlafgolmmekaaWts
import Derived.Test.YtbmlafgolmmekaaTwos
import Derived.Test.YtbmlafgolmmekaaRdWts
import Derived.Test.YtbmlafgolmmekaaRefWts
import Derived.Test.YtbmlafgolmmekaaPrefix
import Derived.Test.YtbmlafgolmmekaaCheck
import Derived.Test.YtbmlafgolmmekaaPlan
import Derived.Test.YtbmlafgolmmekaaFlat
import Derived.Test.YtbmlafgolmmekaaShape
import Derived.Test.YtbmlafgolmmekaaPush
import Derived.Test.YtbmlafgolmmekaaNext
import Derived.Test.YtbmlafgolmmekaaRefShape
import Derived.Test.YtbmlafgolmmekaaShapes
import Derived.Test.YtbmlafgolmmekaaBody
import Derived.Test.YtbmlafgolmmekaaDecode
import Derived.WalkKit
import Derived.ProofKit
import Derived.OpenShut
import Derived.Below
import Derived.WalkLawsBesides
import Derived.Deep.QuietTactic
import Derived.BigQuiet
import Derived.Lib.QuietBelow
import Derived.Deep.RegionHeld3
namespace Go.Proofs.Ytbmlafgolmmekaa
open Go.ChangeShapes Go.WideShapes Go.ChangeAt Go.RowKit
open Go.Sort hiding Below
set_option linter.unusedVariables false
set_option linter.unusedSimpArgs false


set_option maxHeartbeats 2000000 in
set_option maxRecDepth 20000 in
theorem refDecode_open (d h l v u x t n : Int) (s OT : ByteArray) (w : World) (hs : s.size ≤ 9223372036854775805) (hOT : OT.size ≤ 9223372036854775805)
    (OE : Int) (k40 : ∀ W, Calls Try.prog 40 #[.string s] W fun e w' => e = .returned (.tuple #[.string OT, .int .i64 OE]) ∧ Below W.heap.size W w') (hE : (OE != 0) = true) (hE2 : (OE == 0) = false) :
    Calls Try.prog 19 #[.string s, .agg #[.int .i64 d, .int .i64 h, .int .i64 l, .int .i64 v, .int .i64 u, .int .i64 x, .int .i64 t, .int .i64 n]] w fun e w' => e = .returned (.tuple #[.agg #[.int .i64 0, .int .i64 0, nilS], .int .i64 1]) ∧ Below w.heap.size w w' := by
  have hb := below_new (below_new (Below.refl w.heap.size w) (.cells #[.int .i64 d, .int .i64 h, .int .i64 l, .int .i64 v, .int .i64 u, .int .i64 x, .int .i64 t, .int .i64 n] 26)) (.cells #[.int .i64 0, .int .i64 0, nilS] 24)
  have qc : Blk 26 ((w.alloc (.cells #[.int .i64 d, .int .i64 h, .int .i64 l, .int .i64 v, .int .i64 u, .int .i64 x, .int .i64 t, .int .i64 n] 26)).alloc (.cells #[.int .i64 0, .int .i64 0, nilS] 24)) w.heap.size #[.int .i64 d, .int .i64 h, .int .i64 l, .int .i64 v, .int .i64 u, .int .i64 x, .int .i64 t, .int .i64 n] := (Blk.new 26 w _).kept (below_new (Below.refl _ _) _)
  have qr : Blk 24 ((w.alloc (.cells #[.int .i64 d, .int .i64 h, .int .i64 l, .int .i64 v, .int .i64 u, .int .i64 x, .int .i64 t, .int .i64 n] 26)).alloc (.cells #[.int .i64 0, .int .i64 0, nilS] 24)) (w.heap.size + 1) #[.int .i64 0, .int .i64 0, nilS] := Blk.new_at 24 (w.alloc _) _ _ (by simp)
  go_enter Try.func19, Try.ntmps19
  go_wp2_with (first
    | (go_at_call 40; refine (k40 _).mono ?_; rintro e W1 ⟨rfl, h1⟩; replace qr := qr.kept h1; replace qc := qc.kept h1; replace hb := below_then hb h1; clear h1 k40; obtain ⟨z0, z1, z2⟩ := qr.c3; obtain ⟨o0, o1, o2⟩ := qr.o3; obtain ⟨c0', c1', c2', c3', c4', c5', c6', c7'⟩ := qc.cfg))
  obtain ⟨W6, eW, q6, only, hz⟩ := set3 qr (.int .i64 0) (.int .i64 0) nilS
  rw [eW]
  refine bodyPost_ret (v := .tuple #[.agg #[.int .i64 0, .int .i64 0, nilS], .int .i64 1]) ?_ rfl ⟨rfl, Only.below hb (Nat.le_succ _) hb.size only⟩
  obtain ⟨y0, y1, y2⟩ := q6.c3
  simp [results, Try.results19, go_sem, y0, y1, y2]

set_option maxHeartbeats 2000000 in
set_option maxRecDepth 20000 in
theorem refDecode_cfg (d h l v u x t n : Int) (s OT : ByteArray) (w : World) (hs : s.size ≤ 9223372036854775805) (hOT : OT.size ≤ 9223372036854775805)
    (k40 : ∀ W, Calls Try.prog 40 #[.string s] W fun e w' => e = .returned (.tuple #[.string OT, .int .i64 0]) ∧ Below W.heap.size W w') (k41 : ∀ W, Calls Try.prog 41 #[.agg #[.int .i64 d, .int .i64 h, .int .i64 l, .int .i64 v, .int .i64 u, .int .i64 x, .int .i64 t, .int .i64 n]] W fun e w' => e = .returned (.bool false) ∧ Below W.heap.size W w') :
    Calls Try.prog 19 #[.string s, .agg #[.int .i64 d, .int .i64 h, .int .i64 l, .int .i64 v, .int .i64 u, .int .i64 x, .int .i64 t, .int .i64 n]] w fun e w' => e = .returned (.tuple #[.agg #[.int .i64 0, .int .i64 0, nilS], .int .i64 1]) ∧ Below w.heap.size w w' := by
  have hb := below_new (below_new (Below.refl w.heap.size w) (.cells #[.int .i64 d, .int .i64 h, .int .i64 l, .int .i64 v, .int .i64 u, .int .i64 x, .int .i64 t, .int .i64 n] 26)) (.cells #[.int .i64 0, .int .i64 0, nilS] 24)
  have qc : Blk 26 ((w.alloc (.cells #[.int .i64 d, .int .i64 h, .int .i64 l, .int .i64 v, .int .i64 u, .int .i64 x, .int .i64 t, .int .i64 n] 26)).alloc (.cells #[.int .i64 0, .int .i64 0, nilS] 24)) w.heap.size #[.int .i64 d, .int .i64 h, .int .i64 l, .int .i64 v, .int .i64 u, .int .i64 x, .int .i64 t, .int .i64 n] := (Blk.new 26 w _).kept (below_new (Below.refl _ _) _)
  have qr : Blk 24 ((w.alloc (.cells #[.int .i64 d, .int .i64 h, .int .i64 l, .int .i64 v, .int .i64 u, .int .i64 x, .int .i64 t, .int .i64 n] 26)).alloc (.cells #[.int .i64 0, .int .i64 0, nilS] 24)) (w.heap.size + 1) #[.int .i64 0, .int .i64 0, nilS] := Blk.new_at 24 (w.alloc _) _ _ (by simp)
  go_enter Try.func19, Try.ntmps19
  go_wp2_with (first
    | (go_at_call 40; refine (k40 _).mono ?_; rintro e W1 ⟨rfl, h1⟩; replace qr := qr.kept h1; replace qc := qc.kept h1; replace hb := below_then hb h1; clear h1 k40; obtain ⟨z0, z1, z2⟩ := qr.c3; obtain ⟨o0, o1, o2⟩ := qr.o3; obtain ⟨c0', c1', c2', c3', c4', c5', c6', c7'⟩ := qc.cfg)
    | (go_at_call 41; refine (k41 _).mono ?_; rintro e W2 ⟨rfl, h1⟩; replace qr := qr.kept h1; replace qc := qc.kept h1; replace hb := below_then hb h1; clear h1 k41 z0 z1 z2 o0 o1 o2 c0' c1' c2' c3' c4' c5' c6' c7'; obtain ⟨z0, z1, z2⟩ := qr.c3; obtain ⟨o0, o1, o2⟩ := qr.o3; obtain ⟨c0', c1', c2', c3', c4', c5', c6', c7'⟩ := qc.cfg))
  obtain ⟨W6, eW, q6, only, hz⟩ := set3 qr (.int .i64 0) (.int .i64 0) nilS
  rw [eW]
  refine bodyPost_ret (v := .tuple #[.agg #[.int .i64 0, .int .i64 0, nilS], .int .i64 1]) ?_ rfl ⟨rfl, Only.below hb (Nat.le_succ _) hb.size only⟩
  obtain ⟨y0, y1, y2⟩ := q6.c3
  simp [results, Try.results19, go_sem, y0, y1, y2]

set_option maxHeartbeats 2000000 in
set_option maxRecDepth 20000 in
theorem refDecode_long (d h l v u x t n : Int) (s OT : ByteArray) (w : World) (hs : s.size ≤ 9223372036854775805) (hOT : OT.size ≤ 9223372036854775805)
    (k40 : ∀ W, Calls Try.prog 40 #[.string s] W fun e w' => e = .returned (.tuple #[.string OT, .int .i64 0]) ∧ Below W.heap.size W w') (k41 : ∀ W, Calls Try.prog 41 #[.agg #[.int .i64 d, .int .i64 h, .int .i64 l, .int .i64 v, .int .i64 u, .int .i64 x, .int .i64 t, .int .i64 n]] W fun e w' => e = .returned (.bool true) ∧ Below W.heap.size W w') (hl : (16384 : Int) < (s.size : Int)) :
    Calls Try.prog 19 #[.string s, .agg #[.int .i64 d, .int .i64 h, .int .i64 l, .int .i64 v, .int .i64 u, .int .i64 x, .int .i64 t, .int .i64 n]] w fun e w' => e = .returned (.tuple #[.agg #[.int .i64 0, .int .i64 0, nilS], .int .i64 1]) ∧ Below w.heap.size w w' := by
  have hb := below_new (below_new (Below.refl w.heap.size w) (.cells #[.int .i64 d, .int .i64 h, .int .i64 l, .int .i64 v, .int .i64 u, .int .i64 x, .int .i64 t, .int .i64 n] 26)) (.cells #[.int .i64 0, .int .i64 0, nilS] 24)
  have qc : Blk 26 ((w.alloc (.cells #[.int .i64 d, .int .i64 h, .int .i64 l, .int .i64 v, .int .i64 u, .int .i64 x, .int .i64 t, .int .i64 n] 26)).alloc (.cells #[.int .i64 0, .int .i64 0, nilS] 24)) w.heap.size #[.int .i64 d, .int .i64 h, .int .i64 l, .int .i64 v, .int .i64 u, .int .i64 x, .int .i64 t, .int .i64 n] := (Blk.new 26 w _).kept (below_new (Below.refl _ _) _)
  have qr : Blk 24 ((w.alloc (.cells #[.int .i64 d, .int .i64 h, .int .i64 l, .int .i64 v, .int .i64 u, .int .i64 x, .int .i64 t, .int .i64 n] 26)).alloc (.cells #[.int .i64 0, .int .i64 0, nilS] 24)) (w.heap.size + 1) #[.int .i64 0, .int .i64 0, nilS] := Blk.new_at 24 (w.alloc _) _ _ (by simp)
  go_enter Try.func19, Try.ntmps19
  go_wp2_with (first
    | (go_at_call 40; refine (k40 _).mono ?_; rintro e W1 ⟨rfl, h1⟩; replace qr := qr.kept h1; replace qc := qc.kept h1; replace hb := below_then hb h1; clear h1 k40; obtain ⟨z0, z1, z2⟩ := qr.c3; obtain ⟨o0, o1, o2⟩ := qr.o3; obtain ⟨c0', c1', c2', c3', c4', c5', c6', c7'⟩ := qc.cfg)
    | (go_at_call 41; refine (k41 _).mono ?_; rintro e W2 ⟨rfl, h1⟩; replace qr := qr.kept h1; replace qc := qc.kept h1; replace hb := below_then hb h1; clear h1 k41 z0 z1 z2 o0 o1 o2 c0' c1' c2' c3' c4' c5' c6' c7'; obtain ⟨z0, z1, z2⟩ := qr.c3; obtain ⟨o0, o1, o2⟩ := qr.o3; obtain ⟨c0', c1', c2', c3', c4', c5', c6', c7'⟩ := qc.cfg))
  obtain ⟨W6, eW, q6, only, hz⟩ := set3 qr (.int .i64 0) (.int .i64 0) nilS
  rw [eW]
  refine bodyPost_ret (v := .tuple #[.agg #[.int .i64 0, .int .i64 0, nilS], .int .i64 1]) ?_ rfl ⟨rfl, Only.below hb (Nat.le_succ _) hb.size only⟩
  obtain ⟨y0, y1, y2⟩ := q6.c3
  simp [results, Try.results19, go_sem, y0, y1, y2]

set_option maxHeartbeats 2000000 in
set_option maxRecDepth 20000 in
theorem refDecode_two (d h l v u x t n : Int) (s OT : ByteArray) (w : World) (hs : s.size ≤ 9223372036854775805) (hOT : OT.size ≤ 9223372036854775805)
    (k40 : ∀ W, Calls Try.prog 40 #[.string s] W fun e w' => e = .returned (.tuple #[.string OT, .int .i64 0]) ∧ Below W.heap.size W w') (k41 : ∀ W, Calls Try.prog 41 #[.agg #[.int .i64 d, .int .i64 h, .int .i64 l, .int .i64 v, .int .i64 u, .int .i64 x, .int .i64 t, .int .i64 n]] W fun e w' => e = .returned (.bool true) ∧ Below W.heap.size W w') (hl : ¬ (16384 : Int) < (s.size : Int)) (hld : decide ((16384 : Int) < (s.size : Int)) = false) (ht : (OT.size : Int) < 2) (ht' : OT.size < 2) :
    Calls Try.prog 19 #[.string s, .agg #[.int .i64 d, .int .i64 h, .int .i64 l, .int .i64 v, .int .i64 u, .int .i64 x, .int .i64 t, .int .i64 n]] w fun e w' => e = .returned (.tuple #[.agg #[.int .i64 0, .int .i64 0, nilS], .int .i64 1]) ∧ Below w.heap.size w w' := by
  have hb := below_new (below_new (Below.refl w.heap.size w) (.cells #[.int .i64 d, .int .i64 h, .int .i64 l, .int .i64 v, .int .i64 u, .int .i64 x, .int .i64 t, .int .i64 n] 26)) (.cells #[.int .i64 0, .int .i64 0, nilS] 24)
  have qc : Blk 26 ((w.alloc (.cells #[.int .i64 d, .int .i64 h, .int .i64 l, .int .i64 v, .int .i64 u, .int .i64 x, .int .i64 t, .int .i64 n] 26)).alloc (.cells #[.int .i64 0, .int .i64 0, nilS] 24)) w.heap.size #[.int .i64 d, .int .i64 h, .int .i64 l, .int .i64 v, .int .i64 u, .int .i64 x, .int .i64 t, .int .i64 n] := (Blk.new 26 w _).kept (below_new (Below.refl _ _) _)
  have qr : Blk 24 ((w.alloc (.cells #[.int .i64 d, .int .i64 h, .int .i64 l, .int .i64 v, .int .i64 u, .int .i64 x, .int .i64 t, .int .i64 n] 26)).alloc (.cells #[.int .i64 0, .int .i64 0, nilS] 24)) (w.heap.size + 1) #[.int .i64 0, .int .i64 0, nilS] := Blk.new_at 24 (w.alloc _) _ _ (by simp)
  go_enter Try.func19, Try.ntmps19
  go_wp2_with (first
    | (go_at_call 40; refine (k40 _).mono ?_; rintro e W1 ⟨rfl, h1⟩; replace qr := qr.kept h1; replace qc := qc.kept h1; replace hb := below_then hb h1; clear h1 k40; obtain ⟨z0, z1, z2⟩ := qr.c3; obtain ⟨o0, o1, o2⟩ := qr.o3; obtain ⟨c0', c1', c2', c3', c4', c5', c6', c7'⟩ := qc.cfg)
    | (go_at_call 41; refine (k41 _).mono ?_; rintro e W2 ⟨rfl, h1⟩; replace qr := qr.kept h1; replace qc := qc.kept h1; replace hb := below_then hb h1; clear h1 k41 z0 z1 z2 o0 o1 o2 c0' c1' c2' c3' c4' c5' c6' c7'; obtain ⟨z0, z1, z2⟩ := qr.c3; obtain ⟨o0, o1, o2⟩ := qr.o3; obtain ⟨c0', c1', c2', c3', c4', c5', c6', c7'⟩ := qc.cfg))
  obtain ⟨W6, eW, q6, only, hz⟩ := set3 qr (.int .i64 0) (.int .i64 0) nilS
  rw [eW]
  refine bodyPost_ret (v := .tuple #[.agg #[.int .i64 0, .int .i64 0, nilS], .int .i64 1]) ?_ rfl ⟨rfl, Only.below hb (Nat.le_succ _) hb.size only⟩
  obtain ⟨y0, y1, y2⟩ := q6.c3
  simp [results, Try.results19, go_sem, y0, y1, y2]

set_option maxHeartbeats 2000000 in
set_option maxRecDepth 20000 in
theorem refDecode_let (d h l v u x t n : Int) (s OT : ByteArray) (w : World) (hs : s.size ≤ 9223372036854775805) (hOT : OT.size ≤ 9223372036854775805)
    (k40 : ∀ W, Calls Try.prog 40 #[.string s] W fun e w' => e = .returned (.tuple #[.string OT, .int .i64 0]) ∧ Below W.heap.size W w') (k41 : ∀ W, Calls Try.prog 41 #[.agg #[.int .i64 d, .int .i64 h, .int .i64 l, .int .i64 v, .int .i64 u, .int .i64 x, .int .i64 t, .int .i64 n]] W fun e w' => e = .returned (.bool true) ∧ Below W.heap.size W w') (hl : ¬ (16384 : Int) < (s.size : Int)) (hld : decide ((16384 : Int) < (s.size : Int)) = false) (htd : decide ((OT.size : Int) < 2) = false) (ht : ¬ (OT.size : Int) < 2) (ht' : ¬ OT.size < 2) (PA : ByteArray) (ep : OT.extract 0 2 = PA) (hp : (PA.toList == [71, 82]) = false) :
    Calls Try.prog 19 #[.string s, .agg #[.int .i64 d, .int .i64 h, .int .i64 l, .int .i64 v, .int .i64 u, .int .i64 x, .int .i64 t, .int .i64 n]] w fun e w' => e = .returned (.tuple #[.agg #[.int .i64 0, .int .i64 0, nilS], .int .i64 1]) ∧ Below w.heap.size w w' := by
  have hb := below_new (below_new (Below.refl w.heap.size w) (.cells #[.int .i64 d, .int .i64 h, .int .i64 l, .int .i64 v, .int .i64 u, .int .i64 x, .int .i64 t, .int .i64 n] 26)) (.cells #[.int .i64 0, .int .i64 0, nilS] 24)
  have qc : Blk 26 ((w.alloc (.cells #[.int .i64 d, .int .i64 h, .int .i64 l, .int .i64 v, .int .i64 u, .int .i64 x, .int .i64 t, .int .i64 n] 26)).alloc (.cells #[.int .i64 0, .int .i64 0, nilS] 24)) w.heap.size #[.int .i64 d, .int .i64 h, .int .i64 l, .int .i64 v, .int .i64 u, .int .i64 x, .int .i64 t, .int .i64 n] := (Blk.new 26 w _).kept (below_new (Below.refl _ _) _)
  have qr : Blk 24 ((w.alloc (.cells #[.int .i64 d, .int .i64 h, .int .i64 l, .int .i64 v, .int .i64 u, .int .i64 x, .int .i64 t, .int .i64 n] 26)).alloc (.cells #[.int .i64 0, .int .i64 0, nilS] 24)) (w.heap.size + 1) #[.int .i64 0, .int .i64 0, nilS] := Blk.new_at 24 (w.alloc _) _ _ (by simp)
  go_enter Try.func19, Try.ntmps19
  go_wp2_with (first
    | (go_at_call 40; refine (k40 _).mono ?_; rintro e W1 ⟨rfl, h1⟩; replace qr := qr.kept h1; replace qc := qc.kept h1; replace hb := below_then hb h1; clear h1 k40; obtain ⟨z0, z1, z2⟩ := qr.c3; obtain ⟨o0, o1, o2⟩ := qr.o3; obtain ⟨c0', c1', c2', c3', c4', c5', c6', c7'⟩ := qc.cfg)
    | (go_at_call 41; refine (k41 _).mono ?_; rintro e W2 ⟨rfl, h1⟩; replace qr := qr.kept h1; replace qc := qc.kept h1; replace hb := below_then hb h1; clear h1 k41 z0 z1 z2 o0 o1 o2 c0' c1' c2' c3' c4' c5' c6' c7'; obtain ⟨z0, z1, z2⟩ := qr.c3; obtain ⟨o0, o1, o2⟩ := qr.o3; obtain ⟨c0', c1', c2', c3', c4', c5', c6', c7'⟩ := qc.cfg))
  obtain ⟨W6, eW, q6, only, hz⟩ := set3 qr (.int .i64 0) (.int .i64 0) nilS
  rw [eW]
  refine bodyPost_ret (v := .tuple #[.agg #[.int .i64 0, .int .i64 0, nilS], .int .i64 1]) ?_ rfl ⟨rfl, Only.below hb (Nat.le_succ _) hb.size only⟩
  obtain ⟨y0, y1, y2⟩ := q6.c3
  simp [results, Try.results19, go_sem, y0, y1, y2]

set_option maxHeartbeats 2000000 in
set_option maxRecDepth 20000 in
theorem refDecode_rng (d h l v u x t n : Int) (s OT : ByteArray) (w : World) (hs : s.size ≤ 9223372036854775805) (hOT : OT.size ≤ 9223372036854775805)
    (k40 : ∀ W, Calls Try.prog 40 #[.string s] W fun e w' => e = .returned (.tuple #[.string OT, .int .i64 0]) ∧ Below W.heap.size W w') (k41 : ∀ W, Calls Try.prog 41 #[.agg #[.int .i64 d, .int .i64 h, .int .i64 l, .int .i64 v, .int .i64 u, .int .i64 x, .int .i64 t, .int .i64 n]] W fun e w' => e = .returned (.bool true) ∧ Below W.heap.size W w') (hl : ¬ (16384 : Int) < (s.size : Int)) (hld : decide ((16384 : Int) < (s.size : Int)) = false) (htd : decide ((OT.size : Int) < 2) = false) (ht : ¬ (OT.size : Int) < 2) (ht' : ¬ OT.size < 2) (PA : ByteArray) (ep : OT.extract 0 2 = PA) (hp : (PA.toList == [71, 82]) = true) (S0 S1 S2 S3 : ByteArray) (eS : OT.extract 2 OT.size = S0) (E1 E2 E3 EE V0 V1 Z : Int) (ws : List Int)
    (c0 : ∀ W rb, Rd 69 W rb S0 0 → Calls Try.prog 42 #[.pointer (some ⟨rb, 0, none⟩)] W fun r w' => r = .returned (.int .i64 V0) ∧ Rd 69 w' rb S1 E1 ∧ Only rb W w')
    (c1 : ∀ W rb, Rd 69 W rb S1 E1 → Calls Try.prog 42 #[.pointer (some ⟨rb, 0, none⟩)] W fun r w' => r = .returned (.int .i64 V1) ∧ Rd 69 w' rb S2 E2 ∧ Only rb W w')
    (k35 : ∀ W, Calls Try.prog 35 #[.int .i64 V0, .int .i64 V1, .agg #[.int .i64 d, .int .i64 h, .int .i64 l, .int .i64 v, .int .i64 u, .int .i64 x, .int .i64 t, .int .i64 n]] W fun e w' => e = .returned (.bool false) ∧ Below W.heap.size W w') :
    Calls Try.prog 19 #[.string s, .agg #[.int .i64 d, .int .i64 h, .int .i64 l, .int .i64 v, .int .i64 u, .int .i64 x, .int .i64 t, .int .i64 n]] w fun e w' => e = .returned (.tuple #[.agg #[.int .i64 0, .int .i64 0, nilS], .int .i64 1]) ∧ Below w.heap.size w w' := by
  have hb := below_new (below_new (Below.refl w.heap.size w) (.cells #[.int .i64 d, .int .i64 h, .int .i64 l, .int .i64 v, .int .i64 u, .int .i64 x, .int .i64 t, .int .i64 n] 26)) (.cells #[.int .i64 0, .int .i64 0, nilS] 24)
  have qc : Blk 26 ((w.alloc (.cells #[.int .i64 d, .int .i64 h, .int .i64 l, .int .i64 v, .int .i64 u, .int .i64 x, .int .i64 t, .int .i64 n] 26)).alloc (.cells #[.int .i64 0, .int .i64 0, nilS] 24)) w.heap.size #[.int .i64 d, .int .i64 h, .int .i64 l, .int .i64 v, .int .i64 u, .int .i64 x, .int .i64 t, .int .i64 n] := (Blk.new 26 w _).kept (below_new (Below.refl _ _) _)
  have qr : Blk 24 ((w.alloc (.cells #[.int .i64 d, .int .i64 h, .int .i64 l, .int .i64 v, .int .i64 u, .int .i64 x, .int .i64 t, .int .i64 n] 26)).alloc (.cells #[.int .i64 0, .int .i64 0, nilS] 24)) (w.heap.size + 1) #[.int .i64 0, .int .i64 0, nilS] := Blk.new_at 24 (w.alloc _) _ _ (by simp)
  go_enter Try.func19, Try.ntmps19
  go_wp2_with (first
    | (go_at_call 40; refine (k40 _).mono ?_; rintro e W1 ⟨rfl, h1⟩; replace qr := qr.kept h1; replace qc := qc.kept h1; replace hb := below_then hb h1; clear h1 k40; obtain ⟨z0, z1, z2⟩ := qr.c3; obtain ⟨o0, o1, o2⟩ := qr.o3; obtain ⟨c0', c1', c2', c3', c4', c5', c6', c7'⟩ := qc.cfg)
    | (go_at_call 41; refine (k41 _).mono ?_; rintro e W2 ⟨rfl, h1⟩; replace qr := qr.kept h1; replace qc := qc.kept h1; replace hb := below_then hb h1; have b3 := below_new (Below.refl W2.heap.size W2) (.cells #[.string S0, .int .i64 0] 69); have r := Rd.new 69 W2 S0 0; have lt1 := qr.lt; obtain ⟨X, eX⟩ : ∃ X, W2.alloc (.cells #[.string S0, .int .i64 0] 69) = X := ⟨_, rfl⟩; rw [eX] at b3 r; replace qr := qr.kept b3; replace qc := qc.kept b3; replace hb := below_then hb b3; obtain ⟨rb, erb⟩ : ∃ rb, W2.heap.size = rb := ⟨_, rfl⟩; rw [erb] at r lt1; clear h1 k41 b3 z0 z1 z2 o0 o1 o2 c0' c1' c2' c3' c4' c5' c6' c7'; obtain ⟨z0, z1, z2⟩ := qr.c3; obtain ⟨o0, o1, o2⟩ := qr.o3; obtain ⟨c0', c1', c2', c3', c4', c5', c6', c7'⟩ := qc.cfg)
    | (go_at_call 42; refine (c0 _ rb r).mono ?_; rintro e W3 ⟨rfl, r1, on⟩; replace qc := qc.other' on (by omega); replace qr := qr.other' on (by omega); replace hb := Only.below hb (by omega) hb.size on; replace r := r1; clear on r1 c0 z0 z1 z2 o0 o1 o2 c0' c1' c2' c3' c4' c5' c6' c7'; obtain ⟨z0, z1, z2⟩ := qr.c3; obtain ⟨o0, o1, o2⟩ := qr.o3; obtain ⟨c0', c1', c2', c3', c4', c5', c6', c7'⟩ := qc.cfg)
    | (go_at_call 42; refine (c1 _ rb r).mono ?_; rintro e W4 ⟨rfl, r1, on⟩; replace qc := qc.other' on (by omega); replace qr := qr.other' on (by omega); replace hb := Only.below hb (by omega) hb.size on; replace r := r1; clear on r1 c1 z0 z1 z2 o0 o1 o2 c0' c1' c2' c3' c4' c5' c6' c7'; obtain ⟨z0, z1, z2⟩ := qr.c3; obtain ⟨o0, o1, o2⟩ := qr.o3; obtain ⟨c0', c1', c2', c3', c4', c5', c6', c7'⟩ := qc.cfg)
    | (go_at_call 35; refine (k35 _).mono ?_; rintro e W5 ⟨rfl, h1⟩; replace qr := qr.kept h1; replace qc := qc.kept h1; replace hb := below_then hb h1; replace r := r.kept h1; clear h1 k35 z0 z1 z2 o0 o1 o2 c0' c1' c2' c3' c4' c5' c6' c7'; obtain ⟨z0, z1, z2⟩ := qr.c3; obtain ⟨o0, o1, o2⟩ := qr.o3; obtain ⟨c0', c1', c2', c3', c4', c5', c6', c7'⟩ := qc.cfg))
  obtain ⟨W6, eW, q6, only, hz⟩ := set3 qr (.int .i64 0) (.int .i64 0) nilS
  rw [eW]
  refine bodyPost_ret (v := .tuple #[.agg #[.int .i64 0, .int .i64 0, nilS], .int .i64 1]) ?_ rfl ⟨rfl, Only.below hb (Nat.le_succ _) hb.size only⟩
  obtain ⟨y0, y1, y2⟩ := q6.c3
  simp [results, Try.results19, go_sem, y0, y1, y2]

set_option maxHeartbeats 2000000 in
set_option maxRecDepth 20000 in
theorem refDecode_end (d h l v u x t n : Int) (s OT : ByteArray) (w : World) (hs : s.size ≤ 9223372036854775805) (hOT : OT.size ≤ 9223372036854775805)
    (k40 : ∀ W, Calls Try.prog 40 #[.string s] W fun e w' => e = .returned (.tuple #[.string OT, .int .i64 0]) ∧ Below W.heap.size W w') (k41 : ∀ W, Calls Try.prog 41 #[.agg #[.int .i64 d, .int .i64 h, .int .i64 l, .int .i64 v, .int .i64 u, .int .i64 x, .int .i64 t, .int .i64 n]] W fun e w' => e = .returned (.bool true) ∧ Below W.heap.size W w') (hl : ¬ (16384 : Int) < (s.size : Int)) (hld : decide ((16384 : Int) < (s.size : Int)) = false) (htd : decide ((OT.size : Int) < 2) = false) (ht : ¬ (OT.size : Int) < 2) (ht' : ¬ OT.size < 2) (PA : ByteArray) (ep : OT.extract 0 2 = PA) (hp : (PA.toList == [71, 82]) = true) (S0 S1 S2 S3 : ByteArray) (eS : OT.extract 2 OT.size = S0) (E1 E2 E3 EE V0 V1 Z : Int) (ws : List Int)
    (c0 : ∀ W rb, Rd 69 W rb S0 0 → Calls Try.prog 42 #[.pointer (some ⟨rb, 0, none⟩)] W fun r w' => r = .returned (.int .i64 V0) ∧ Rd 69 w' rb S1 E1 ∧ Only rb W w')
    (c1 : ∀ W rb, Rd 69 W rb S1 E1 → Calls Try.prog 42 #[.pointer (some ⟨rb, 0, none⟩)] W fun r w' => r = .returned (.int .i64 V1) ∧ Rd 69 w' rb S2 E2 ∧ Only rb W w')
    (k35 : ∀ W, Calls Try.prog 35 #[.int .i64 V0, .int .i64 V1, .agg #[.int .i64 d, .int .i64 h, .int .i64 l, .int .i64 v, .int .i64 u, .int .i64 x, .int .i64 t, .int .i64 n]] W fun e w' => e = .returned (.bool true) ∧ Below W.heap.size W w')
    (q q2 : Int) (hq : l * 4 = q) (q0 : -9223372036854775808 ≤ q) (q1 : q ≤ 9223372036854775807) (hq2 : q * V0 = q2) (q20 : -9223372036854775808 ≤ q2) (q21 : q2 ≤ 9223372036854775807) (hZ : q2 * d = Z) (Z0 : -9223372036854775808 ≤ Z) (Z1 : Z ≤ 9223372036854775807)
    (c2 : ∀ W rb, Rd 69 W rb S2 E2 → Calls Try.prog 43 #[.pointer (some ⟨rb, 0, none⟩), .int .i64 Z] W fun r w' => (∃ s : SL, r = .returned (.slice s.a s.n s.c) ∧ IsS w' s ws) ∧ Rd 69 w' rb S3 E3 ∧ Only rb W w')
    (c3 : ∀ W rb, Rd 69 W rb S3 E3 → Calls Try.prog 44 #[.pointer (some ⟨rb, 0, none⟩)] W fun r w' => r = .returned (.int .i64 EE) ∧ w' = W) (hE : (EE == 0) = false) (hE2 : (EE != 0) = true) :
    Calls Try.prog 19 #[.string s, .agg #[.int .i64 d, .int .i64 h, .int .i64 l, .int .i64 v, .int .i64 u, .int .i64 x, .int .i64 t, .int .i64 n]] w fun e w' => e = .returned (.tuple #[.agg #[.int .i64 0, .int .i64 0, nilS], .int .i64 1]) ∧ Below w.heap.size w w' := by
  have hb := below_new (below_new (Below.refl w.heap.size w) (.cells #[.int .i64 d, .int .i64 h, .int .i64 l, .int .i64 v, .int .i64 u, .int .i64 x, .int .i64 t, .int .i64 n] 26)) (.cells #[.int .i64 0, .int .i64 0, nilS] 24)
  have qc : Blk 26 ((w.alloc (.cells #[.int .i64 d, .int .i64 h, .int .i64 l, .int .i64 v, .int .i64 u, .int .i64 x, .int .i64 t, .int .i64 n] 26)).alloc (.cells #[.int .i64 0, .int .i64 0, nilS] 24)) w.heap.size #[.int .i64 d, .int .i64 h, .int .i64 l, .int .i64 v, .int .i64 u, .int .i64 x, .int .i64 t, .int .i64 n] := (Blk.new 26 w _).kept (below_new (Below.refl _ _) _)
  have qr : Blk 24 ((w.alloc (.cells #[.int .i64 d, .int .i64 h, .int .i64 l, .int .i64 v, .int .i64 u, .int .i64 x, .int .i64 t, .int .i64 n] 26)).alloc (.cells #[.int .i64 0, .int .i64 0, nilS] 24)) (w.heap.size + 1) #[.int .i64 0, .int .i64 0, nilS] := Blk.new_at 24 (w.alloc _) _ _ (by simp)
  go_enter Try.func19, Try.ntmps19
  go_wp2_with (first
    | (go_at_call 40; refine (k40 _).mono ?_; rintro e W1 ⟨rfl, h1⟩; replace qr := qr.kept h1; replace qc := qc.kept h1; replace hb := below_then hb h1; clear h1 k40; obtain ⟨z0, z1, z2⟩ := qr.c3; obtain ⟨o0, o1, o2⟩ := qr.o3; obtain ⟨c0', c1', c2', c3', c4', c5', c6', c7'⟩ := qc.cfg)
    | (go_at_call 41; refine (k41 _).mono ?_; rintro e W2 ⟨rfl, h1⟩; replace qr := qr.kept h1; replace qc := qc.kept h1; replace hb := below_then hb h1; have b3 := below_new (Below.refl W2.heap.size W2) (.cells #[.string S0, .int .i64 0] 69); have r := Rd.new 69 W2 S0 0; have lt1 := qr.lt; obtain ⟨X, eX⟩ : ∃ X, W2.alloc (.cells #[.string S0, .int .i64 0] 69) = X := ⟨_, rfl⟩; rw [eX] at b3 r; replace qr := qr.kept b3; replace qc := qc.kept b3; replace hb := below_then hb b3; obtain ⟨rb, erb⟩ : ∃ rb, W2.heap.size = rb := ⟨_, rfl⟩; rw [erb] at r lt1; clear h1 k41 b3 z0 z1 z2 o0 o1 o2 c0' c1' c2' c3' c4' c5' c6' c7'; obtain ⟨z0, z1, z2⟩ := qr.c3; obtain ⟨o0, o1, o2⟩ := qr.o3; obtain ⟨c0', c1', c2', c3', c4', c5', c6', c7'⟩ := qc.cfg)
    | (go_at_call 42; refine (c0 _ rb r).mono ?_; rintro e W3 ⟨rfl, r1, on⟩; replace qc := qc.other' on (by omega); replace qr := qr.other' on (by omega); replace hb := Only.below hb (by omega) hb.size on; replace r := r1; clear on r1 c0 z0 z1 z2 o0 o1 o2 c0' c1' c2' c3' c4' c5' c6' c7'; obtain ⟨z0, z1, z2⟩ := qr.c3; obtain ⟨o0, o1, o2⟩ := qr.o3; obtain ⟨c0', c1', c2', c3', c4', c5', c6', c7'⟩ := qc.cfg)
    | (go_at_call 42; refine (c1 _ rb r).mono ?_; rintro e W4 ⟨rfl, r1, on⟩; replace qc := qc.other' on (by omega); replace qr := qr.other' on (by omega); replace hb := Only.below hb (by omega) hb.size on; replace r := r1; clear on r1 c1 z0 z1 z2 o0 o1 o2 c0' c1' c2' c3' c4' c5' c6' c7'; obtain ⟨z0, z1, z2⟩ := qr.c3; obtain ⟨o0, o1, o2⟩ := qr.o3; obtain ⟨c0', c1', c2', c3', c4', c5', c6', c7'⟩ := qc.cfg)
    | (go_at_call 35; refine (k35 _).mono ?_; rintro e W5 ⟨rfl, h1⟩; replace qr := qr.kept h1; replace qc := qc.kept h1; replace hb := below_then hb h1; replace r := r.kept h1; clear h1 k35 z0 z1 z2 o0 o1 o2 c0' c1' c2' c3' c4' c5' c6' c7'; obtain ⟨z0, z1, z2⟩ := qr.c3; obtain ⟨o0, o1, o2⟩ := qr.o3; obtain ⟨c0', c1', c2', c3', c4', c5', c6', c7'⟩ := qc.cfg)
    | (go_at_call 43; refine (c2 _ rb r).mono ?_; rintro e W6 ⟨⟨s6, rfl, is6⟩, r1, on⟩; replace qc := qc.other' on (by omega); replace qr := qr.other' on (by omega); replace hb := Only.below hb (by omega) hb.size on; replace r := r1; clear on r1 c2 z0 z1 z2 o0 o1 o2 c0' c1' c2' c3' c4' c5' c6' c7'; obtain ⟨z0, z1, z2⟩ := qr.c3; obtain ⟨o0, o1, o2⟩ := qr.o3; obtain ⟨c0', c1', c2', c3', c4', c5', c6', c7'⟩ := qc.cfg)
    | (go_at_call 44; refine (c3 _ rb r).mono ?_; rintro e W7 ⟨rfl, h4⟩; obtain rfl := h4.symm; clear c3))
  obtain ⟨W6, eW, q6, only, hz⟩ := set3 qr (.int .i64 0) (.int .i64 0) nilS
  rw [eW]
  refine bodyPost_ret (v := .tuple #[.agg #[.int .i64 0, .int .i64 0, nilS], .int .i64 1]) ?_ rfl ⟨rfl, Only.below hb (Nat.le_succ _) hb.size only⟩
  obtain ⟨y0, y1, y2⟩ := q6.c3
  simp [results, Try.results19, go_sem, y0, y1, y2]

set_option maxHeartbeats 2000000 in
set_option maxRecDepth 20000 in
theorem refDecode_good (d h l v u x t n : Int) (s OT : ByteArray) (w : World) (hs : s.size ≤ 9223372036854775805) (hOT : OT.size ≤ 9223372036854775805)
    (k40 : ∀ W, Calls Try.prog 40 #[.string s] W fun e w' => e = .returned (.tuple #[.string OT, .int .i64 0]) ∧ Below W.heap.size W w') (k41 : ∀ W, Calls Try.prog 41 #[.agg #[.int .i64 d, .int .i64 h, .int .i64 l, .int .i64 v, .int .i64 u, .int .i64 x, .int .i64 t, .int .i64 n]] W fun e w' => e = .returned (.bool true) ∧ Below W.heap.size W w') (hl : ¬ (16384 : Int) < (s.size : Int)) (hld : decide ((16384 : Int) < (s.size : Int)) = false) (htd : decide ((OT.size : Int) < 2) = false) (ht : ¬ (OT.size : Int) < 2) (ht' : ¬ OT.size < 2) (PA : ByteArray) (ep : OT.extract 0 2 = PA) (hp : (PA.toList == [71, 82]) = true) (S0 S1 S2 S3 : ByteArray) (eS : OT.extract 2 OT.size = S0) (E1 E2 E3 EE V0 V1 Z : Int) (ws : List Int)
    (c0 : ∀ W rb, Rd 69 W rb S0 0 → Calls Try.prog 42 #[.pointer (some ⟨rb, 0, none⟩)] W fun r w' => r = .returned (.int .i64 V0) ∧ Rd 69 w' rb S1 E1 ∧ Only rb W w')
    (c1 : ∀ W rb, Rd 69 W rb S1 E1 → Calls Try.prog 42 #[.pointer (some ⟨rb, 0, none⟩)] W fun r w' => r = .returned (.int .i64 V1) ∧ Rd 69 w' rb S2 E2 ∧ Only rb W w')
    (k35 : ∀ W, Calls Try.prog 35 #[.int .i64 V0, .int .i64 V1, .agg #[.int .i64 d, .int .i64 h, .int .i64 l, .int .i64 v, .int .i64 u, .int .i64 x, .int .i64 t, .int .i64 n]] W fun e w' => e = .returned (.bool true) ∧ Below W.heap.size W w')
    (q q2 : Int) (hq : l * 4 = q) (q0 : -9223372036854775808 ≤ q) (q1 : q ≤ 9223372036854775807) (hq2 : q * V0 = q2) (q20 : -9223372036854775808 ≤ q2) (q21 : q2 ≤ 9223372036854775807) (hZ : q2 * d = Z) (Z0 : -9223372036854775808 ≤ Z) (Z1 : Z ≤ 9223372036854775807)
    (c2 : ∀ W rb, Rd 69 W rb S2 E2 → Calls Try.prog 43 #[.pointer (some ⟨rb, 0, none⟩), .int .i64 Z] W fun r w' => (∃ s : SL, r = .returned (.slice s.a s.n s.c) ∧ IsS w' s ws) ∧ Rd 69 w' rb S3 E3 ∧ Only rb W w')
    (c3 : ∀ W rb, Rd 69 W rb S3 E3 → Calls Try.prog 44 #[.pointer (some ⟨rb, 0, none⟩)] W fun r w' => r = .returned (.int .i64 EE) ∧ w' = W) (hE : EE = 0) (m : AdV)
    (k21 : ∀ W (s : SL), IsS W s ws → Calls Try.prog 21 #[.int .i64 V0, .int .i64 V1, .agg #[.int .i64 d, .int .i64 h, .int .i64 l, .int .i64 v, .int .i64 u, .int .i64 x, .int .i64 t, .int .i64 n], .slice s.a s.n s.c] W fun e w' => ∃ (L : SL) (Y : Nat → Nat → SL), e = .returned (.tuple #[.agg #[.int .i64 V0, .int .i64 V1, .slice L.a L.n L.c], .int .i64 0]) ∧ NewA W.heap.size w' L Y m ∧ Below W.heap.size W w') :
    Calls Try.prog 19 #[.string s, .agg #[.int .i64 d, .int .i64 h, .int .i64 l, .int .i64 v, .int .i64 u, .int .i64 x, .int .i64 t, .int .i64 n]] w fun e w' => ∃ (L : SL) (Y : Nat → Nat → SL), e = .returned (.tuple #[.agg #[.int .i64 V0, .int .i64 V1, .slice L.a L.n L.c], .int .i64 0]) ∧ NewA w.heap.size w' L Y m ∧ Below w.heap.size w w' := by
  subst hE
  have hb := below_new (below_new (Below.refl w.heap.size w) (.cells #[.int .i64 d, .int .i64 h, .int .i64 l, .int .i64 v, .int .i64 u, .int .i64 x, .int .i64 t, .int .i64 n] 26)) (.cells #[.int .i64 0, .int .i64 0, nilS] 24)
  have qc : Blk 26 ((w.alloc (.cells #[.int .i64 d, .int .i64 h, .int .i64 l, .int .i64 v, .int .i64 u, .int .i64 x, .int .i64 t, .int .i64 n] 26)).alloc (.cells #[.int .i64 0, .int .i64 0, nilS] 24)) w.heap.size #[.int .i64 d, .int .i64 h, .int .i64 l, .int .i64 v, .int .i64 u, .int .i64 x, .int .i64 t, .int .i64 n] := (Blk.new 26 w _).kept (below_new (Below.refl _ _) _)
  have qr : Blk 24 ((w.alloc (.cells #[.int .i64 d, .int .i64 h, .int .i64 l, .int .i64 v, .int .i64 u, .int .i64 x, .int .i64 t, .int .i64 n] 26)).alloc (.cells #[.int .i64 0, .int .i64 0, nilS] 24)) (w.heap.size + 1) #[.int .i64 0, .int .i64 0, nilS] := Blk.new_at 24 (w.alloc _) _ _ (by simp)
  go_enter Try.func19, Try.ntmps19
  go_wp2_with (first
    | (go_at_call 40; refine (k40 _).mono ?_; rintro e W1 ⟨rfl, h1⟩; replace qr := qr.kept h1; replace qc := qc.kept h1; replace hb := below_then hb h1; clear h1 k40; obtain ⟨z0, z1, z2⟩ := qr.c3; obtain ⟨o0, o1, o2⟩ := qr.o3; obtain ⟨c0', c1', c2', c3', c4', c5', c6', c7'⟩ := qc.cfg)
    | (go_at_call 41; refine (k41 _).mono ?_; rintro e W2 ⟨rfl, h1⟩; replace qr := qr.kept h1; replace qc := qc.kept h1; replace hb := below_then hb h1; have b3 := below_new (Below.refl W2.heap.size W2) (.cells #[.string S0, .int .i64 0] 69); have r := Rd.new 69 W2 S0 0; have lt1 := qr.lt; obtain ⟨X, eX⟩ : ∃ X, W2.alloc (.cells #[.string S0, .int .i64 0] 69) = X := ⟨_, rfl⟩; rw [eX] at b3 r; replace qr := qr.kept b3; replace qc := qc.kept b3; replace hb := below_then hb b3; obtain ⟨rb, erb⟩ : ∃ rb, W2.heap.size = rb := ⟨_, rfl⟩; rw [erb] at r lt1; clear h1 k41 b3 z0 z1 z2 o0 o1 o2 c0' c1' c2' c3' c4' c5' c6' c7'; obtain ⟨z0, z1, z2⟩ := qr.c3; obtain ⟨o0, o1, o2⟩ := qr.o3; obtain ⟨c0', c1', c2', c3', c4', c5', c6', c7'⟩ := qc.cfg)
    | (go_at_call 42; refine (c0 _ rb r).mono ?_; rintro e W3 ⟨rfl, r1, on⟩; replace qc := qc.other' on (by omega); replace qr := qr.other' on (by omega); replace hb := Only.below hb (by omega) hb.size on; replace r := r1; clear on r1 c0 z0 z1 z2 o0 o1 o2 c0' c1' c2' c3' c4' c5' c6' c7'; obtain ⟨z0, z1, z2⟩ := qr.c3; obtain ⟨o0, o1, o2⟩ := qr.o3; obtain ⟨c0', c1', c2', c3', c4', c5', c6', c7'⟩ := qc.cfg)
    | (go_at_call 42; refine (c1 _ rb r).mono ?_; rintro e W4 ⟨rfl, r1, on⟩; replace qc := qc.other' on (by omega); replace qr := qr.other' on (by omega); replace hb := Only.below hb (by omega) hb.size on; replace r := r1; clear on r1 c1 z0 z1 z2 o0 o1 o2 c0' c1' c2' c3' c4' c5' c6' c7'; obtain ⟨z0, z1, z2⟩ := qr.c3; obtain ⟨o0, o1, o2⟩ := qr.o3; obtain ⟨c0', c1', c2', c3', c4', c5', c6', c7'⟩ := qc.cfg)
    | (go_at_call 35; refine (k35 _).mono ?_; rintro e W5 ⟨rfl, h1⟩; replace qr := qr.kept h1; replace qc := qc.kept h1; replace hb := below_then hb h1; replace r := r.kept h1; clear h1 k35 z0 z1 z2 o0 o1 o2 c0' c1' c2' c3' c4' c5' c6' c7'; obtain ⟨z0, z1, z2⟩ := qr.c3; obtain ⟨o0, o1, o2⟩ := qr.o3; obtain ⟨c0', c1', c2', c3', c4', c5', c6', c7'⟩ := qc.cfg)
    | (go_at_call 43; refine (c2 _ rb r).mono ?_; rintro e W6 ⟨⟨s6, rfl, is6⟩, r1, on⟩; replace qc := qc.other' on (by omega); replace qr := qr.other' on (by omega); replace hb := Only.below hb (by omega) hb.size on; replace r := r1; clear on r1 c2 z0 z1 z2 o0 o1 o2 c0' c1' c2' c3' c4' c5' c6' c7'; obtain ⟨z0, z1, z2⟩ := qr.c3; obtain ⟨o0, o1, o2⟩ := qr.o3; obtain ⟨c0', c1', c2', c3', c4', c5', c6', c7'⟩ := qc.cfg)
    | (go_at_call 44; refine (c3 _ rb r).mono ?_; rintro e W7 ⟨rfl, h4⟩; obtain rfl := h4.symm; clear c3)
    | (go_at_call 21; refine (k21 _ s6 is6).mono ?_; rintro e W8 ⟨L, Y, rfl, hN, h1⟩; have lt2 := qr.lt; have b2 := below_new (Below.refl W8.heap.size W8) (.cells #[.int .i64 V0, .int .i64 V1, .slice L.a L.n L.c] 24); have qx : Blk 24 (W8.alloc (.cells #[.int .i64 V0, .int .i64 V1, .slice L.a L.n L.c] 24)) W8.heap.size #[.int .i64 V0, .int .i64 V1, .slice L.a L.n L.c] := Blk.new 24 W8 _; obtain ⟨W9, eW9⟩ : ∃ W, W8.alloc (.cells #[.int .i64 V0, .int .i64 V1, .slice L.a L.n L.c] 24) = W := ⟨_, rfl⟩; rw [eW9] at b2 qx; have b1 := below_then h1 b2; replace hb := below_then hb b1; replace qr := qr.kept b1; have nw := hN.below b2; clear h1 b1 b2 hN k21 z0 z1 z2 o0 o1 o2 c0' c1' c2' c3' c4' c5' c6' c7'; obtain ⟨z0, z1, z2⟩ := qr.c3; obtain ⟨o0, o1, o2⟩ := qr.o3; obtain ⟨y0, y1, y2⟩ := qx.c3))
  obtain ⟨WA, eW, q6, only, hz⟩ := set3 qr (.int .i64 V0) (.int .i64 V1) (.slice L.a L.n L.c)
  rw [eW]
  refine bodyPost_ret (v := .tuple #[.agg #[.int .i64 V0, .int .i64 V1, .slice L.a L.n L.c], .int .i64 0]) ?_ rfl ⟨L, Y, rfl, (nw.only only lt2).le (by have := hb.size; omega), Only.below hb (Nat.le_succ _) hb.size only⟩
  obtain ⟨u0, u1, u2⟩ := q6.c3
  simp [results, Try.results19, go_sem, u0, u1, u2]

theorem refDecode_call (d h l v u x t n : Int) (s : ByteArray) (w : World) (hs : s.size ≤ 9223372036854775805) : Calls Try.prog 19 #[.string s, .agg #[.int .i64 d, .int .i64 h, .int .i64 l, .int .i64 v, .int .i64 u, .int .i64 x, .int .i64 t, .int .i64 n]] w fun e w' => ∃ (L : SL) (Y : Nat → Nat → SL), e = .returned (.tuple #[.agg #[.int .i64 (decR d h l v u x t n s), .int .i64 (decS d h l v u x t n s), .slice L.a L.n L.c], .int .i64 (decE d h l v u x t n s)]) ∧ NewA w.heap.size w' L Y (decM d h l v u x t n s) ∧ Below w.heap.size w w' := by
  have k41 := refConfig_call d h l v u x t n
  have k40 := fun W => refOpen_call s W hs
  have ts := openT_size s
  have no : decOK d h l v u x t n s = false → (Calls Try.prog 19 #[.string s, .agg #[.int .i64 d, .int .i64 h, .int .i64 l, .int .i64 v, .int .i64 u, .int .i64 x, .int .i64 t, .int .i64 n]] w fun e w' => e = .returned (.tuple #[.agg #[.int .i64 0, .int .i64 0, nilS], .int .i64 1]) ∧ Below w.heap.size w w') → Calls Try.prog 19 #[.string s, .agg #[.int .i64 d, .int .i64 h, .int .i64 l, .int .i64 v, .int .i64 u, .int .i64 x, .int .i64 t, .int .i64 n]] w fun e w' => ∃ (L : SL) (Y : Nat → Nat → SL), e = .returned (.tuple #[.agg #[.int .i64 (decR d h l v u x t n s), .int .i64 (decS d h l v u x t n s), .slice L.a L.n L.c], .int .i64 (decE d h l v u x t n s)]) ∧ NewA w.heap.size w' L Y (decM d h l v u x t n s) ∧ Below w.heap.size w w' := fun hd hc =>
    hc.mono fun e w' hh => by
      simp only [decR, decS, decM, decE, hd, Bool.false_eq_true, if_false]
      exact ⟨⟨none, 0, 0⟩, fun _ _ => SL.nought, hh.1, NewA.none_ _ _ _, hh.2⟩
  by_cases ho : openE s = 0
  · simp only [ho] at k40
    cases okc : okB d h l v u x t n with
    | false =>
      simp only [okc] at k41
      exact no (by unfold decOK; rw [okc]; rfl) (refDecode_cfg d h l v u x t n s (openT s) w hs (by omega) k40 k41)
    | true =>
      simp only [okc] at k41
      by_cases hl : s.size ≤ 16384
      · by_cases ht : (openT s).size < 2
        · have ha : grB (openT s) = false := decide_eq_false fun k => by have := k.1; omega
          have hd : decOK d h l v u x t n s = false := by unfold decOK; rw [show txtOK s = false from decide_eq_false fun k => by rw [ha] at k; simp at k, okc]; rfl
          exact no hd (refDecode_two d h l v u x t n s (openT s) w hs (by omega) k40 k41 (by omega) (decide_eq_false (by omega)) (by omega) ht)
        · by_cases hp : (openT s).extract 0 2 = lettersS
          · have ha : grB (openT s) = true := decide_eq_true ⟨by omega, hp⟩
            have tx : txtOK s = true := decide_eq_true ⟨hl, ho, ha⟩
            have g := text_same hp
            rw [letters_list] at g
            obtain ⟨b, eb⟩ : ∃ b, bodyS (openT s) = b := ⟨_, rfl⟩
            have eb' : (openT s).extract 2 (openT s).size = b := eb
            have cl : 2 ≤ d ∧ d ≤ 8 ∧ 1 ≤ l ∧ l ≤ 2 := by
              unfold okB headsB at okc
              simp only [Bool.and_eq_true, decide_eq_true_eq] at okc
              omega
            obtain ⟨d0, d1, l0, l1⟩ := cl
            have hbz : b.size ≤ 9223372036854775807 := by rw [← eb']; simp only [ByteArray.size_extract]; omega
            have rb := twoV_bounds b 0
            have p0 : 0 ≤ rk b * d := Int.mul_nonneg rb.1 (by omega)
            have p1 : rk b * d ≤ 65535 * 8 := Int.mul_le_mul rb.2 d1 (by omega) (by omega)
            have z0 : 0 ≤ rdZ d l b := Int.mul_nonneg (by omega) p0
            have z1 : rdZ d l b ≤ 8 * (65535 * 8) := Int.mul_le_mul (show l * 4 ≤ 8 by omega) p1 p0 (by omega)
            have y0 : 0 ≤ l * 4 * rk b := Int.mul_nonneg (by omega) rb.1
            have y1 : l * 4 * rk b ≤ 8 * 65535 := Int.mul_le_mul (show l * 4 ≤ 8 by omega) rb.2 rb.1 (by omega)
            have zz : l * 4 * rk b * d = rdZ d l b := by unfold rdZ; rw [Int.mul_assoc (l * 4)]
            have c0 := fun W rb (r : Rd 69 W rb b 0) => refTwo_reader r hbz
            have c1 := fun W rb (r : Rd 69 W rb (twoS b 0) (twoE b 0)) => refTwo_reader r (by have := twoS_size b 0; omega)
            have k35 := refRanges_call (rk b) (sf b) d h l v u x t n
            have c2 : ∀ W rb, Rd 69 W rb (tl b) (te b) → Calls Try.prog 43 #[.pointer (some ⟨rb, 0, none⟩), .int .i64 (rdZ d l b)] W fun r w' => (∃ s : SL, r = .returned (.slice s.a s.n s.c) ∧ IsS w' s (rdWs d l b)) ∧ Rd 69 w' rb (wtS (tl b) (te b) (rdZ d l b)) (rdE d l b) ∧ Only rb W w' := fun W rb r =>
              (refWeights_reader r (rdZ d l b) (by have := twoS_size b 0; have := twoS_size (twoS b 0) (twoE b 0); unfold tl; omega)).mono fun r w' ⟨⟨a, m, c, h1, h2, h3, h4⟩, h5, h6⟩ => ⟨⟨⟨a, m, c⟩, h1, h2, h4, h3⟩, h5, h6⟩
            have c3 : ∀ W rb, Rd 69 W rb (wtS (tl b) (te b) (rdZ d l b)) (rdE d l b) → Calls Try.prog 44 #[.pointer (some ⟨rb, 0, none⟩)] W fun r w' => r = .returned (.int .i64 (rdEnd d l b)) ∧ w' = W := fun W rb r => refEnd_reader r
            cases ok : okA (rk b) (sf b) d h l v u x t n with
            | false =>
              have hB : bodyOK d h l v u x t n b = false := by unfold bodyOK; rw [ok]; rfl
              have hd : decOK d h l v u x t n s = false := by unfold decOK; rw [okc, tx, eb, hB]; rfl
              simp only [ok] at k35
              exact no hd (refDecode_rng d h l v u x t n s (openT s) w hs (by omega) k40 k41 (by omega) (decide_eq_false (by omega)) (decide_eq_false (by omega)) (by omega) ht _ rfl g b _ _ (wtS (tl b) (te b) (rdZ d l b)) eb' _ _ (rdE d l b) (rdEnd d l b) (rk b) (sf b) (rdZ d l b) (rdWs d l b) c0 c1 k35)
            | true =>
              simp only [ok] at k35
              by_cases he : rdEnd d l b = 0
              · have wl := rdWs_len d l b he
                have hB : bodyOK d h l v u x t n b = true := by unfold bodyOK; rw [ok]; simp [he]
                have hd : decOK d h l v u x t n s = true := by unfold decOK; rw [okc, tx, eb, hB]; rfl
                have so : shpOK (rk b) (sf b) d h l v u x t n (rdWs d l b).length = true := by
                  unfold shpOK
                  rw [ok, wl, Int.toNat_of_nonneg z0]
                  simp [rdZ]
                have se : shpE (rk b) (sf b) d h l v u x t n (rdWs d l b).length = 0 := by
                  unfold shpE
                  rw [if_pos ok, wl, Int.toNat_of_nonneg z0]
                  exact if_pos rfl
                simp only [decR, decS, decM, decE, hd, if_true, eb]
                refine refDecode_good d h l v u x t n s (openT s) w hs (by omega) k40 k41 (by omega) (decide_eq_false (by omega)) (decide_eq_false (by omega)) (by omega) ht _ rfl g b _ _ _ eb' _ _ _ _ (rk b) (sf b) (rdZ d l b) (rdWs d l b) c0 c1 k35 (l * 4) (l * 4 * rk b) rfl (by omega) (by omega) rfl (by omega) (by omega) zz (by omega) (by omega) c2 c3 he (bodyM d l b) (fun W s hs => ?_)
                have := refShape_call (rk b) (sf b) d h l v u x t n s (rdWs d l b) W hs
                unfold shpM at this
                rw [so, se] at this
                exact this
              · have hB : bodyOK d h l v u x t n b = false := by unfold bodyOK; simp [he]
                have hd : decOK d h l v u x t n s = false := by unfold decOK; rw [okc, tx, eb, hB]; rfl
                exact no hd (refDecode_end d h l v u x t n s (openT s) w hs (by omega) k40 k41 (by omega) (decide_eq_false (by omega)) (decide_eq_false (by omega)) (by omega) ht _ rfl g b _ _ _ eb' _ _ _ _ (rk b) (sf b) (rdZ d l b) (rdWs d l b) c0 c1 k35 (l * 4) (l * 4 * rk b) rfl (by omega) (by omega) rfl (by omega) (by omega) zz (by omega) (by omega) c2 c3 (by simp [he]) (by simp [he]))
          · have ha : grB (openT s) = false := decide_eq_false fun k => hp k.2
            have hd : decOK d h l v u x t n s = false := by unfold decOK; rw [show txtOK s = false from decide_eq_false fun k => by rw [ha] at k; simp at k, okc]; rfl
            have g := text_other hp
            rw [letters_list] at g
            exact no hd (refDecode_let d h l v u x t n s (openT s) w hs (by omega) k40 k41 (by omega) (decide_eq_false (by omega)) (decide_eq_false (by omega)) (by omega) ht _ rfl g)
      · have hd : decOK d h l v u x t n s = false := by unfold decOK; rw [show txtOK s = false from decide_eq_false fun k => hl k.1, okc]; rfl
        exact no hd (refDecode_long d h l v u x t n s (openT s) w hs (by omega) k40 k41 (by omega))
  · have hd : decOK d h l v u x t n s = false := by unfold decOK; rw [show txtOK s = false from decide_eq_false fun k => ho k.2.1]; simp
    exact no hd (refDecode_open d h l v u x t n s (openT s) w hs (by omega) (openE s) k40 (by simp [ho]) (by simp [ho]))

end Go.Proofs.Ytbmlafgolmmekaa
