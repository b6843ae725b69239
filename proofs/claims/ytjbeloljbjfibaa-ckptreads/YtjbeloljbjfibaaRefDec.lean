/- The document's Shape of any weights, its Decode of any text. -/
import Derived.Test.YtjbeloljbjfibaaRows
import Derived.Test.YtjbeloljbjfibaaLayer8
import Derived.Test.YtjbeloljbjfibaaConf
import Derived.Test.YtjbeloljbjfibaaBlank
import Derived.Test.YtjbeloljbjfibaaCfgRef
import Derived.Test.YtjbeloljbjfibaaSize
import Derived.Test.YtjbeloljbjfibaaSizes
import Derived.Test.YtjbeloljbjfibaaSteps
import Derived.Test.YtjbeloljbjfibaaClo54
import Derived.Test.YtjbeloljbjfibaaFill
import Derived.Test.YtjbeloljbjfibaaMods
import Derived.Test.YtjbeloljbjfibaaFills
import Derived.Test.YtjbeloljbjfibaaShape
import Derived.Test.YtjbeloljbjfibaaShapes
import Derived.Test.YtjbeloljbjfibaaCheck
import Derived.Test.YtjbeloljbjfibaaChecks
import Derived.Test.YtjbeloljbjfibaaDims
import Derived.Test.YtjbeloljbjfibaaFlat
import Derived.Test.YtjbeloljbjfibaaNumbers
import Derived.Test.YtjbeloljbjfibaaPrefix
import Derived.Test.YtjbeloljbjfibaaBody
import Derived.Test.YtjbeloljbjfibaaDecode
import Derived.WalkKit
import Derived.ProofKit
import Derived.OpenShut
import Derived.Below
import Derived.WalkLawsBesides
import Derived.Deep.QuietTactic
import Derived.BigQuiet
import Derived.Deep.RegionWith
import Derived.Deep.RegionHeld3
import Derived.Deep.OwnRows
import Derived.Deep.Slices
import Derived.Test.YtjbeloljbjfibaaTrips
import Derived.Test.YtjbeloljbjfibaaInv
import Derived.Test.YtjbeloljbjfibaaBuild
import Derived.Test.YtjbeloljbjfibaaTypedC
import Derived.Test.YtjbeloljbjfibaaEqWorks
import Derived.Test.YtjbeloljbjfibaaCuts
import Derived.Test.YtjbeloljbjfibaaSameLM
import Derived.Test.YtjbeloljbjfibaaOwns
import Derived.Test.YtjbeloljbjfibaaJoin
import Derived.Test.YtjbeloljbjfibaaShp
import Derived.Test.YtjbeloljbjfibaaShpFew
import Derived.Test.YtjbeloljbjfibaaShpMany
namespace Go.Proofs.Ytjbeloljbjfibaa
open Go.ChangeShapes Go.WideShapes Go.ChangeAt Go.RowKit
set_option linter.unusedVariables false

set_option maxRecDepth 20000 in
set_option maxHeartbeats 1000000 in
theorem refShape_bad (d h l v u x t n : Int) (ok : okB d h l v u x t n = false) (sa : Option Addr) (nW cW : Nat) (w : World) :
    Calls Try.prog 25 #[.agg #[.int .i64 d, .int .i64 h, .int .i64 l, .int .i64 v, .int .i64 u, .int .i64 x, .int .i64 t, .int .i64 n], .slice sa nW cW] w fun e w' => e = .returned (.tuple #[.agg #[.int .i64 0, .int .i64 0, .int .i64 0, .int .i64 0, .int .i64 0, .int .i64 0, .int .i64 0, .int .i64 0, nilS, nilS, nilS, nilS], .int .i64 20]) ∧ Below w.heap.size w w' := by
  have k10 := refConfig_call d h l v u x t n
  simp only [ok] at k10
  clear ok
  have hb := below_new (below_new (Below.refl w.heap.size w) (.cells #[.int .i64 d, .int .i64 h, .int .i64 l, .int .i64 v, .int .i64 u, .int .i64 x, .int .i64 t, .int .i64 n] 23)) (.cells #[.int .i64 0, .int .i64 0, .int .i64 0, .int .i64 0, .int .i64 0, .int .i64 0, .int .i64 0, .int .i64 0, nilS, nilS, nilS, nilS] 29)
  have q0 : Blk 23 ((w.alloc (.cells #[.int .i64 d, .int .i64 h, .int .i64 l, .int .i64 v, .int .i64 u, .int .i64 x, .int .i64 t, .int .i64 n] 23)).alloc (.cells #[.int .i64 0, .int .i64 0, .int .i64 0, .int .i64 0, .int .i64 0, .int .i64 0, .int .i64 0, .int .i64 0, nilS, nilS, nilS, nilS] 29)) w.heap.size #[.int .i64 d, .int .i64 h, .int .i64 l, .int .i64 v, .int .i64 u, .int .i64 x, .int .i64 t, .int .i64 n] := (Blk.new 23 w _).kept (below_new (Below.refl _ _) _)
  have qr : Blk 29 ((w.alloc (.cells #[.int .i64 d, .int .i64 h, .int .i64 l, .int .i64 v, .int .i64 u, .int .i64 x, .int .i64 t, .int .i64 n] 23)).alloc (.cells #[.int .i64 0, .int .i64 0, .int .i64 0, .int .i64 0, .int .i64 0, .int .i64 0, .int .i64 0, .int .i64 0, nilS, nilS, nilS, nilS] 29)) (w.heap.size + 1) #[.int .i64 0, .int .i64 0, .int .i64 0, .int .i64 0, .int .i64 0, .int .i64 0, .int .i64 0, .int .i64 0, nilS, nilS, nilS, nilS] := Blk.new_at 29 (w.alloc _) _ _ (by simp)
  obtain ⟨d0, d1, d2, d3, d4, d5, d6, d7⟩ := q0.cfg
  go_enter Try.func25, Try.ntmps25
  go_wp2_with (first
    | (go_at_call 10; refine (k10 _).mono ?_; rintro e W1 ⟨rfl, h1⟩; replace qr := qr.kept h1; replace hb := below_then hb h1; clear h1 k10 d0 d1 d2 d3 d4 d5 d6 d7; obtain ⟨z0, z1, z2, z3, z4, z5, z6, z7, z8, z9, z10, z11⟩ := qr.c12; obtain ⟨o0, o1, o2, o3, o4, o5, o6, o7, o8, o9, o10, o11⟩ := qr.o12))
  obtain ⟨W9, eW9, q9', only9, hz9⟩ := set12 qr (.int .i64 0) (.int .i64 0) (.int .i64 0) (.int .i64 0) (.int .i64 0) (.int .i64 0) (.int .i64 0) (.int .i64 0) nilS nilS nilS nilS
  rw [eW9]
  refine bodyPost_ret (v := .tuple #[.agg #[.int .i64 0, .int .i64 0, .int .i64 0, .int .i64 0, .int .i64 0, .int .i64 0, .int .i64 0, .int .i64 0, nilS, nilS, nilS, nilS], .int .i64 20]) ?_ rfl ⟨rfl, Only.below hb (by omega) hb.size only9⟩
  obtain ⟨y0, y1, y2, y3, y4, y5, y6, y7, y8, y9, y10, y11⟩ := q9'.c12
  simp [results, Try.results25, go_sem, y0, y1, y2, y3, y4, y5, y6, y7, y8, y9, y10, y11]

set_option maxRecDepth 20000 in
set_option maxHeartbeats 1000000 in
theorem refShape_len (d h l v u x t n : Int) (ok : okB d h l v u x t n = true) (sa : Option Addr) (nW cW : Nat) (hlen : (nW : Int) ≠ szZ d l v u x) (w : World) :
    Calls Try.prog 25 #[.agg #[.int .i64 d, .int .i64 h, .int .i64 l, .int .i64 v, .int .i64 u, .int .i64 x, .int .i64 t, .int .i64 n], .slice sa nW cW] w fun e w' => e = .returned (.tuple #[.agg #[.int .i64 0, .int .i64 0, .int .i64 0, .int .i64 0, .int .i64 0, .int .i64 0, .int .i64 0, .int .i64 0, nilS, nilS, nilS, nilS], .int .i64 21]) ∧ Below w.heap.size w w' := by
  have k10 := refConfig_call d h l v u x t n
  have k12 := refSize_call d h l v u x t n
  simp only [ok] at k10
  have es : sizeB d h l v u x t n = szZ d l v u x := by unfold sizeB; rw [ok]; rfl
  simp only [es] at k12
  obtain ⟨Z, eZ⟩ : ∃ Z, szZ d l v u x = Z := ⟨_, rfl⟩
  rw [eZ] at hlen
  simp only [eZ] at k12
  have hZ : ((nW : Int) == Z) = false := by simp [hlen]
  have hZ2 : ((nW : Int) != Z) = true := by simp [hlen]
  clear ok es eZ
  have hb := below_new (below_new (Below.refl w.heap.size w) (.cells #[.int .i64 d, .int .i64 h, .int .i64 l, .int .i64 v, .int .i64 u, .int .i64 x, .int .i64 t, .int .i64 n] 23)) (.cells #[.int .i64 0, .int .i64 0, .int .i64 0, .int .i64 0, .int .i64 0, .int .i64 0, .int .i64 0, .int .i64 0, nilS, nilS, nilS, nilS] 29)
  have q0 : Blk 23 ((w.alloc (.cells #[.int .i64 d, .int .i64 h, .int .i64 l, .int .i64 v, .int .i64 u, .int .i64 x, .int .i64 t, .int .i64 n] 23)).alloc (.cells #[.int .i64 0, .int .i64 0, .int .i64 0, .int .i64 0, .int .i64 0, .int .i64 0, .int .i64 0, .int .i64 0, nilS, nilS, nilS, nilS] 29)) w.heap.size #[.int .i64 d, .int .i64 h, .int .i64 l, .int .i64 v, .int .i64 u, .int .i64 x, .int .i64 t, .int .i64 n] := (Blk.new 23 w _).kept (below_new (Below.refl _ _) _)
  have qr : Blk 29 ((w.alloc (.cells #[.int .i64 d, .int .i64 h, .int .i64 l, .int .i64 v, .int .i64 u, .int .i64 x, .int .i64 t, .int .i64 n] 23)).alloc (.cells #[.int .i64 0, .int .i64 0, .int .i64 0, .int .i64 0, .int .i64 0, .int .i64 0, .int .i64 0, .int .i64 0, nilS, nilS, nilS, nilS] 29)) (w.heap.size + 1) #[.int .i64 0, .int .i64 0, .int .i64 0, .int .i64 0, .int .i64 0, .int .i64 0, .int .i64 0, .int .i64 0, nilS, nilS, nilS, nilS] := Blk.new_at 29 (w.alloc _) _ _ (by simp)
  obtain ⟨d0, d1, d2, d3, d4, d5, d6, d7⟩ := q0.cfg
  go_enter Try.func25, Try.ntmps25
  go_wp2_with (first
    | (go_at_call 10; refine (k10 _).mono ?_; rintro e W1 ⟨rfl, h1⟩; replace q0 := q0.kept h1; replace qr := qr.kept h1; replace hb := below_then hb h1; clear h1 k10 d0 d1 d2 d3 d4 d5 d6 d7; obtain ⟨d0, d1, d2, d3, d4, d5, d6, d7⟩ := q0.cfg)
    | (go_at_call 12; refine (k12 _).mono ?_; rintro e W2 ⟨rfl, h2⟩; replace qr := qr.kept h2; replace hb := below_then hb h2; clear h2 k12 d0 d1 d2 d3 d4 d5 d6 d7; obtain ⟨z0, z1, z2, z3, z4, z5, z6, z7, z8, z9, z10, z11⟩ := qr.c12; obtain ⟨o0, o1, o2, o3, o4, o5, o6, o7, o8, o9, o10, o11⟩ := qr.o12))
  obtain ⟨W9, eW9, q9', only9, hz9⟩ := set12 qr (.int .i64 0) (.int .i64 0) (.int .i64 0) (.int .i64 0) (.int .i64 0) (.int .i64 0) (.int .i64 0) (.int .i64 0) nilS nilS nilS nilS
  rw [eW9]
  refine bodyPost_ret (v := .tuple #[.agg #[.int .i64 0, .int .i64 0, .int .i64 0, .int .i64 0, .int .i64 0, .int .i64 0, .int .i64 0, .int .i64 0, nilS, nilS, nilS, nilS], .int .i64 21]) ?_ rfl ⟨rfl, Only.below hb (by omega) hb.size only9⟩
  obtain ⟨y0, y1, y2, y3, y4, y5, y6, y7, y8, y9, y10, y11⟩ := q9'.c12
  simp [results, Try.results25, go_sem, y0, y1, y2, y3, y4, y5, y6, y7, y8, y9, y10, y11]

theorem refShape_good (d h l v u x t n : Int) (ok : okB d h l v u x t n = true) (xa : Addr) (nW cW : Nat) (ws : List Int) (w : World) (rd : Reads .i8 w (some xa) nW ws) (hc : nW ≤ cW) (hlen : (nW : Int) = szZ d l v u x) :
    Calls Try.prog 25 #[.agg #[.int .i64 d, .int .i64 h, .int .i64 l, .int .i64 v, .int .i64 u, .int .i64 x, .int .i64 t, .int .i64 n], .slice (some xa) nW cW] w fun e w' => ∃ E L N O : SL, ∃ Y U D', e = .returned (.tuple #[.agg #[.int .i64 d, .int .i64 h, .int .i64 l, .int .i64 v, .int .i64 u, .int .i64 x, .int .i64 t, .int .i64 n, .slice E.a E.n E.c, .slice L.a L.n L.c, .slice N.a N.n N.c, .slice O.a O.n O.c], .int .i64 0]) ∧ NewM w.heap.size w' E L N O Y U D' (shapeV d l v u x ws) ∧ Below w.heap.size w w' := by
  have dm := dims_of ok
  have k10 := refConfig_call d h l v u x t n
  have k12 := refSize_call d h l v u x t n
  simp only [ok] at k10
  have es : sizeB d h l v u x t n = (nW : Int) := by unfold sizeB; rw [ok, hlen]; rfl
  simp only [es] at k12
  have hfit : nW = offs (cntOf d l v u x) (allT l x) := by have := dm.sz; omega
  have hxa : xa.block < w.heap.size := by
    have c := rd.cell xa rfl 0 (by have := dm.sz0; omega)
    have := World.block_lt_of_cell? _ _ c
    simpa [Addr.add] using this
  have hx : x = 0 ∨ 2 ≤ x := by
    unfold okB expertsB at ok
    simp only [Bool.and_eq_true, decide_eq_true_eq] at ok
    omega
  rcases hx with hx | hx
  · have n1 : netsN x = 1 := by unfold netsN; rw [hx]; rfl
    have hf1 := hfit
    unfold cntOf allT at hf1
    rw [n1] at hf1
    have key := refShape_few h v u x t n d.toNat (d * d).toNat (x * d).toNat (u * d).toNat (v * d).toNat l.toNat nW cW xa ws (by rw [← dm.ed]; exact dm.e1) (by rw [← dm.ed]; exact dm.e2) (by rw [← dm.ed]; exact dm.e3) (by rw [← dm.ed]; exact dm.e4) (by rw [← dm.ed, Int.mul_comm]; exact dm.e4) (by omega)
      dm.b0 dm.b1 dm.b2 dm.b3 dm.b4 dm.l1 w (by rw [← dm.ed, ← dm.el]; exact k10) (by rw [← dm.ed, ← dm.el]; exact k12) rd hc (by have := dm.sz1; omega) hf1.symm hxa
    rw [← dm.ed, ← dm.el] at key
    unfold shapeV cntOf
    rw [n1]
    exact key
  · have en : x = (netsN x : Int) := by have := dm.en; omega
    have hf1 := hfit
    unfold cntOf allT at hf1
    have key := refShape_many h v u t n d.toNat (d * d).toNat (x * d).toNat (u * d).toNat (v * d).toNat (netsN x) l.toNat nW cW xa ws (by rw [← dm.ed]; exact dm.e1) (by rw [← dm.ed]; exact dm.e2) (by rw [← dm.ed, ← en]; exact dm.e3) (by rw [← dm.ed]; exact dm.e4) (by rw [← dm.ed, Int.mul_comm]; exact dm.e4) (by omega) dm.n1
      dm.b0 dm.b1 dm.b2 dm.b3 dm.b4 dm.l1 w (by rw [← dm.ed, ← dm.el, ← en]; exact k10) (by rw [← dm.ed, ← dm.el, ← en]; exact k12) rd hc (by have := dm.sz1; omega) hf1.symm hxa
    rw [← dm.ed, ← dm.el, ← en] at key
    exact key

set_option maxRecDepth 20000 in
set_option maxHeartbeats 1000000 in
theorem refDecode_e (s : ByteArray) (w : World) (OT : ByteArray) (OE : Int) (hs : s.size ≤ 9223372036854775805) (hOT : OT.size ≤ 9223372036854775805) (k50 : ∀ W, Calls Try.prog 50 #[.string s] W fun e w' => e = .returned (.tuple #[.string OT, .int .i64 OE]) ∧ Below W.heap.size W w') (hE : (OE != 0) = true) (hE2 : (OE == 0) = false) :
    Calls Try.prog 23 #[.string s] w fun e w' => e = .returned (.tuple #[.agg #[.int .i64 0, .int .i64 0, .int .i64 0, .int .i64 0, .int .i64 0, .int .i64 0, .int .i64 0, .int .i64 0, nilS, nilS, nilS, nilS], .int .i64 1]) ∧ Below w.heap.size w w' := by
  have hb := below_new (Below.refl w.heap.size w) (.cells #[.int .i64 0, .int .i64 0, .int .i64 0, .int .i64 0, .int .i64 0, .int .i64 0, .int .i64 0, .int .i64 0, nilS, nilS, nilS, nilS] 29)
  have qr := Blk.new 29 w #[.int .i64 0, .int .i64 0, .int .i64 0, .int .i64 0, .int .i64 0, .int .i64 0, .int .i64 0, .int .i64 0, nilS, nilS, nilS, nilS]
  go_enter Try.func23, Try.ntmps23
  go_wp2_with (first
    | (go_at_call 50; refine (k50 _).mono ?_; rintro e W1 ⟨rfl, h1⟩; replace qr := qr.kept h1; replace hb := below_then hb h1; clear h1 k50; obtain ⟨z0, z1, z2, z3, z4, z5, z6, z7, z8, z9, z10, z11⟩ := qr.c12; obtain ⟨o0, o1, o2, o3, o4, o5, o6, o7, o8, o9, o10, o11⟩ := qr.o12))
  obtain ⟨W9, eW9, q9', only9, hz9⟩ := set12 qr (.int .i64 0) (.int .i64 0) (.int .i64 0) (.int .i64 0) (.int .i64 0) (.int .i64 0) (.int .i64 0) (.int .i64 0) nilS nilS nilS nilS
  rw [eW9]
  refine bodyPost_ret (v := .tuple #[.agg #[.int .i64 0, .int .i64 0, .int .i64 0, .int .i64 0, .int .i64 0, .int .i64 0, .int .i64 0, .int .i64 0, nilS, nilS, nilS, nilS], .int .i64 1]) ?_ rfl ⟨rfl, Only.below hb (by omega) hb.size only9⟩
  obtain ⟨y0, y1, y2, y3, y4, y5, y6, y7, y8, y9, y10, y11⟩ := q9'.c12
  simp [results, Try.results23, go_sem, y0, y1, y2, y3, y4, y5, y6, y7, y8, y9, y10, y11]

set_option maxRecDepth 20000 in
set_option maxHeartbeats 1000000 in
theorem refDecode_long (s : ByteArray) (w : World) (OT : ByteArray) (hs : s.size ≤ 9223372036854775805) (hOT : OT.size ≤ 9223372036854775805) (k50 : ∀ W, Calls Try.prog 50 #[.string s] W fun e w' => e = .returned (.tuple #[.string OT, .int .i64 0]) ∧ Below W.heap.size W w') (hl : (16384 : Int) < (s.size : Int)) :
    Calls Try.prog 23 #[.string s] w fun e w' => e = .returned (.tuple #[.agg #[.int .i64 0, .int .i64 0, .int .i64 0, .int .i64 0, .int .i64 0, .int .i64 0, .int .i64 0, .int .i64 0, nilS, nilS, nilS, nilS], .int .i64 1]) ∧ Below w.heap.size w w' := by
  have hb := below_new (Below.refl w.heap.size w) (.cells #[.int .i64 0, .int .i64 0, .int .i64 0, .int .i64 0, .int .i64 0, .int .i64 0, .int .i64 0, .int .i64 0, nilS, nilS, nilS, nilS] 29)
  have qr := Blk.new 29 w #[.int .i64 0, .int .i64 0, .int .i64 0, .int .i64 0, .int .i64 0, .int .i64 0, .int .i64 0, .int .i64 0, nilS, nilS, nilS, nilS]
  go_enter Try.func23, Try.ntmps23
  go_wp2_with (first
    | (go_at_call 50; refine (k50 _).mono ?_; rintro e W1 ⟨rfl, h1⟩; replace qr := qr.kept h1; replace hb := below_then hb h1; clear h1 k50; obtain ⟨z0, z1, z2, z3, z4, z5, z6, z7, z8, z9, z10, z11⟩ := qr.c12; obtain ⟨o0, o1, o2, o3, o4, o5, o6, o7, o8, o9, o10, o11⟩ := qr.o12))
  obtain ⟨W9, eW9, q9', only9, hz9⟩ := set12 qr (.int .i64 0) (.int .i64 0) (.int .i64 0) (.int .i64 0) (.int .i64 0) (.int .i64 0) (.int .i64 0) (.int .i64 0) nilS nilS nilS nilS
  rw [eW9]
  refine bodyPost_ret (v := .tuple #[.agg #[.int .i64 0, .int .i64 0, .int .i64 0, .int .i64 0, .int .i64 0, .int .i64 0, .int .i64 0, .int .i64 0, nilS, nilS, nilS, nilS], .int .i64 1]) ?_ rfl ⟨rfl, Only.below hb (by omega) hb.size only9⟩
  obtain ⟨y0, y1, y2, y3, y4, y5, y6, y7, y8, y9, y10, y11⟩ := q9'.c12
  simp [results, Try.results23, go_sem, y0, y1, y2, y3, y4, y5, y6, y7, y8, y9, y10, y11]

set_option maxRecDepth 20000 in
set_option maxHeartbeats 1000000 in
theorem refDecode_two (s : ByteArray) (w : World) (OT : ByteArray) (hs : s.size ≤ 9223372036854775805) (hOT : OT.size ≤ 9223372036854775805) (k50 : ∀ W, Calls Try.prog 50 #[.string s] W fun e w' => e = .returned (.tuple #[.string OT, .int .i64 0]) ∧ Below W.heap.size W w') (hl : ¬ (16384 : Int) < (s.size : Int)) (ht : (OT.size : Int) < 2) (ht' : OT.size < 2) :
    Calls Try.prog 23 #[.string s] w fun e w' => e = .returned (.tuple #[.agg #[.int .i64 0, .int .i64 0, .int .i64 0, .int .i64 0, .int .i64 0, .int .i64 0, .int .i64 0, .int .i64 0, nilS, nilS, nilS, nilS], .int .i64 1]) ∧ Below w.heap.size w w' := by
  have hb := below_new (Below.refl w.heap.size w) (.cells #[.int .i64 0, .int .i64 0, .int .i64 0, .int .i64 0, .int .i64 0, .int .i64 0, .int .i64 0, .int .i64 0, nilS, nilS, nilS, nilS] 29)
  have qr := Blk.new 29 w #[.int .i64 0, .int .i64 0, .int .i64 0, .int .i64 0, .int .i64 0, .int .i64 0, .int .i64 0, .int .i64 0, nilS, nilS, nilS, nilS]
  go_enter Try.func23, Try.ntmps23
  go_wp2_with (first
    | (go_at_call 50; refine (k50 _).mono ?_; rintro e W1 ⟨rfl, h1⟩; replace qr := qr.kept h1; replace hb := below_then hb h1; clear h1 k50; obtain ⟨z0, z1, z2, z3, z4, z5, z6, z7, z8, z9, z10, z11⟩ := qr.c12; obtain ⟨o0, o1, o2, o3, o4, o5, o6, o7, o8, o9, o10, o11⟩ := qr.o12))
  obtain ⟨W9, eW9, q9', only9, hz9⟩ := set12 qr (.int .i64 0) (.int .i64 0) (.int .i64 0) (.int .i64 0) (.int .i64 0) (.int .i64 0) (.int .i64 0) (.int .i64 0) nilS nilS nilS nilS
  rw [eW9]
  refine bodyPost_ret (v := .tuple #[.agg #[.int .i64 0, .int .i64 0, .int .i64 0, .int .i64 0, .int .i64 0, .int .i64 0, .int .i64 0, .int .i64 0, nilS, nilS, nilS, nilS], .int .i64 1]) ?_ rfl ⟨rfl, Only.below hb (by omega) hb.size only9⟩
  obtain ⟨y0, y1, y2, y3, y4, y5, y6, y7, y8, y9, y10, y11⟩ := q9'.c12
  simp [results, Try.results23, go_sem, y0, y1, y2, y3, y4, y5, y6, y7, y8, y9, y10, y11]

set_option maxRecDepth 20000 in
set_option maxHeartbeats 1000000 in
theorem refDecode_av (s : ByteArray) (w : World) (OT : ByteArray) (hs : s.size ≤ 9223372036854775805) (hOT : OT.size ≤ 9223372036854775805) (k50 : ∀ W, Calls Try.prog 50 #[.string s] W fun e w' => e = .returned (.tuple #[.string OT, .int .i64 0]) ∧ Below W.heap.size W w') (hl : ¬ (16384 : Int) < (s.size : Int)) (hld : decide ((16384 : Int) < (s.size : Int)) = false) (htd : decide ((OT.size : Int) < 2) = false) (ht : ¬ (OT.size : Int) < 2) (ht' : ¬ OT.size < 2) (PA : ByteArray) (ep : OT.extract 0 2 = PA) (hp : (PA.toList == [65, 86]) = false) :
    Calls Try.prog 23 #[.string s] w fun e w' => e = .returned (.tuple #[.agg #[.int .i64 0, .int .i64 0, .int .i64 0, .int .i64 0, .int .i64 0, .int .i64 0, .int .i64 0, .int .i64 0, nilS, nilS, nilS, nilS], .int .i64 1]) ∧ Below w.heap.size w w' := by
  have hb := below_new (Below.refl w.heap.size w) (.cells #[.int .i64 0, .int .i64 0, .int .i64 0, .int .i64 0, .int .i64 0, .int .i64 0, .int .i64 0, .int .i64 0, nilS, nilS, nilS, nilS] 29)
  have qr := Blk.new 29 w #[.int .i64 0, .int .i64 0, .int .i64 0, .int .i64 0, .int .i64 0, .int .i64 0, .int .i64 0, .int .i64 0, nilS, nilS, nilS, nilS]
  go_enter Try.func23, Try.ntmps23
  go_wp2_with (first
    | (go_at_call 50; refine (k50 _).mono ?_; rintro e W1 ⟨rfl, h1⟩; replace qr := qr.kept h1; replace hb := below_then hb h1; clear h1 k50; obtain ⟨z0, z1, z2, z3, z4, z5, z6, z7, z8, z9, z10, z11⟩ := qr.c12; obtain ⟨o0, o1, o2, o3, o4, o5, o6, o7, o8, o9, o10, o11⟩ := qr.o12))
  obtain ⟨W9, eW9, q9', only9, hz9⟩ := set12 qr (.int .i64 0) (.int .i64 0) (.int .i64 0) (.int .i64 0) (.int .i64 0) (.int .i64 0) (.int .i64 0) (.int .i64 0) nilS nilS nilS nilS
  rw [eW9]
  refine bodyPost_ret (v := .tuple #[.agg #[.int .i64 0, .int .i64 0, .int .i64 0, .int .i64 0, .int .i64 0, .int .i64 0, .int .i64 0, .int .i64 0, nilS, nilS, nilS, nilS], .int .i64 1]) ?_ rfl ⟨rfl, Only.below hb (by omega) hb.size only9⟩
  obtain ⟨y0, y1, y2, y3, y4, y5, y6, y7, y8, y9, y10, y11⟩ := q9'.c12
  simp [results, Try.results23, go_sem, y0, y1, y2, y3, y4, y5, y6, y7, y8, y9, y10, y11]

set_option maxRecDepth 20000 in
set_option maxHeartbeats 4000000 in
theorem refDecode_cfg (s OT S0 S1 S2 S3 S4 S5 S6 S7 S8 : ByteArray) (E1 E2 E3 E4 E5 E6 E7 E8 V0 V1 V2 V3 V4 V5 V6 V7 : Int) (w : World) (hs : s.size ≤ 9223372036854775805) (hOT : OT.size ≤ 9223372036854775805) (k50 : ∀ W, Calls Try.prog 50 #[.string s] W fun e w' => e = .returned (.tuple #[.string OT, .int .i64 0]) ∧ Below W.heap.size W w') (hl : ¬ (16384 : Int) < (s.size : Int)) (hld : decide ((16384 : Int) < (s.size : Int)) = false) (htd : decide ((OT.size : Int) < 2) = false) (ht : ¬ (OT.size : Int) < 2) (ht' : ¬ OT.size < 2) (ht3 : 2 ≤ OT.size) (PA : ByteArray) (ep : OT.extract 0 2 = PA) (hp : (PA.toList == [65, 86]) = true) (eb : OT.extract 2 OT.size = S0)
    (c0 : ∀ b W, Rd 75 W b S0 0 → Calls Try.prog 51 #[.pointer (some ⟨b, 0, none⟩)] W fun r w' => r = .returned (.int .i64 V0) ∧ Rd 75 w' b S1 E1 ∧ Only b W w') (c1 : ∀ b W, Rd 75 W b S1 E1 → Calls Try.prog 51 #[.pointer (some ⟨b, 0, none⟩)] W fun r w' => r = .returned (.int .i64 V1) ∧ Rd 75 w' b S2 E2 ∧ Only b W w') (c2 : ∀ b W, Rd 75 W b S2 E2 → Calls Try.prog 51 #[.pointer (some ⟨b, 0, none⟩)] W fun r w' => r = .returned (.int .i64 V2) ∧ Rd 75 w' b S3 E3 ∧ Only b W w') (c3 : ∀ b W, Rd 75 W b S3 E3 → Calls Try.prog 51 #[.pointer (some ⟨b, 0, none⟩)] W fun r w' => r = .returned (.int .i64 V3) ∧ Rd 75 w' b S4 E4 ∧ Only b W w') (c4 : ∀ b W, Rd 75 W b S4 E4 → Calls Try.prog 51 #[.pointer (some ⟨b, 0, none⟩)] W fun r w' => r = .returned (.int .i64 V4) ∧ Rd 75 w' b S5 E5 ∧ Only b W w') (c5 : ∀ b W, Rd 75 W b S5 E5 → Calls Try.prog 51 #[.pointer (some ⟨b, 0, none⟩)] W fun r w' => r = .returned (.int .i64 V5) ∧ Rd 75 w' b S6 E6 ∧ Only b W w') (c6 : ∀ b W, Rd 75 W b S6 E6 → Calls Try.prog 51 #[.pointer (some ⟨b, 0, none⟩)] W fun r w' => r = .returned (.int .i64 V6) ∧ Rd 75 w' b S7 E7 ∧ Only b W w') (c7 : ∀ b W, Rd 75 W b S7 E7 → Calls Try.prog 51 #[.pointer (some ⟨b, 0, none⟩)] W fun r w' => r = .returned (.int .i64 V7) ∧ Rd 75 w' b S8 E8 ∧ Only b W w') (k10 : ∀ w, Calls Try.prog 10 #[.agg #[.int .i64 V0, .int .i64 V1, .int .i64 V2, .int .i64 V3, .int .i64 V4, .int .i64 V5, .int .i64 V6, .int .i64 V7]] w fun e w' => e = .returned (.bool false) ∧ Below w.heap.size w w') :
    Calls Try.prog 23 #[.string s] w fun e w' => e = .returned (.tuple #[.agg #[.int .i64 0, .int .i64 0, .int .i64 0, .int .i64 0, .int .i64 0, .int .i64 0, .int .i64 0, .int .i64 0, nilS, nilS, nilS, nilS], .int .i64 1]) ∧ Below w.heap.size w w' := by
  have hb := below_new (Below.refl w.heap.size w) (.cells #[.int .i64 0, .int .i64 0, .int .i64 0, .int .i64 0, .int .i64 0, .int .i64 0, .int .i64 0, .int .i64 0, nilS, nilS, nilS, nilS] 29)
  have qr := Blk.new 29 w #[.int .i64 0, .int .i64 0, .int .i64 0, .int .i64 0, .int .i64 0, .int .i64 0, .int .i64 0, .int .i64 0, nilS, nilS, nilS, nilS]
  go_enter Try.func23, Try.ntmps23
  go_wp2_with (first
    | (go_at_call 50; refine (k50 _).mono ?_; rintro e W1 ⟨rfl, h1⟩; replace qr := qr.kept h1; replace hb := below_then hb h1; have hrl := qr.lt; have r := Rd.new 75 W1 S0 0; replace qr := qr.kept (below_new (Below.refl _ _) (.cells #[.string S0, .int .i64 0] 75)); replace hb := below_new hb (.cells #[.string S0, .int .i64 0] 75); clear h1 k50)
    | (go_at_call 51; refine (c0 _ _ r).mono ?_; rintro e X0 ⟨rfl, r1, o1⟩; replace qr := qr.only o1 (by omega); replace hb := Only.below hb (by omega) hb.size o1; replace r := r1; have sz0 := o1.size; clear o1 r1 c0)
    | (go_at_call 51; refine (c1 _ _ r).mono ?_; rintro e X1 ⟨rfl, r1, o1⟩; replace qr := qr.only o1 (by omega); replace hb := Only.below hb (by omega) hb.size o1; replace r := r1; have sz1 := o1.size; clear o1 r1 c1)
    | (go_at_call 51; refine (c2 _ _ r).mono ?_; rintro e X2 ⟨rfl, r1, o1⟩; replace qr := qr.only o1 (by omega); replace hb := Only.below hb (by omega) hb.size o1; replace r := r1; have sz2 := o1.size; clear o1 r1 c2)
    | (go_at_call 51; refine (c3 _ _ r).mono ?_; rintro e X3 ⟨rfl, r1, o1⟩; replace qr := qr.only o1 (by omega); replace hb := Only.below hb (by omega) hb.size o1; replace r := r1; have sz3 := o1.size; clear o1 r1 c3)
    | (go_at_call 51; refine (c4 _ _ r).mono ?_; rintro e X4 ⟨rfl, r1, o1⟩; replace qr := qr.only o1 (by omega); replace hb := Only.below hb (by omega) hb.size o1; replace r := r1; have sz4 := o1.size; clear o1 r1 c4)
    | (go_at_call 51; refine (c5 _ _ r).mono ?_; rintro e X5 ⟨rfl, r1, o1⟩; replace qr := qr.only o1 (by omega); replace hb := Only.below hb (by omega) hb.size o1; replace r := r1; have sz5 := o1.size; clear o1 r1 c5)
    | (go_at_call 51; refine (c6 _ _ r).mono ?_; rintro e X6 ⟨rfl, r1, o1⟩; replace qr := qr.only o1 (by omega); replace hb := Only.below hb (by omega) hb.size o1; replace r := r1; have sz6 := o1.size; clear o1 r1 c6)
    | (go_at_call 51; refine (c7 _ _ r).mono ?_; rintro e X7 ⟨rfl, r1, o1⟩; replace qr := qr.only o1 (by omega); replace hb := Only.below hb (by omega) hb.size o1; replace r := r1; have sz7 := o1.size; clear o1 r1 c7; have rlt := r.lt; obtain ⟨A, eA⟩ : ∃ A, X7.alloc (.cells #[.int .i64 V0, .int .i64 V1, .int .i64 V2, .int .i64 V3, .int .i64 V4, .int .i64 V5, .int .i64 V6, .int .i64 V7] 23) = A := ⟨_, rfl⟩; have bA : Below X7.heap.size X7 A := eA ▸ below_new (Below.refl _ _) _; have q : Blk 23 A X7.heap.size #[.int .i64 V0, .int .i64 V1, .int .i64 V2, .int .i64 V3, .int .i64 V4, .int .i64 V5, .int .i64 V6, .int .i64 V7] := eA ▸ Blk.new 23 X7 _; replace qr := qr.kept bA; replace hb := below_then hb bA; replace r := r.kept bA; clear bA; obtain ⟨d0, d1, d2, d3, d4, d5, d6, d7⟩ := q.cfg)
    | (go_at_call 10; refine (k10 _).mono ?_; rintro e W2 ⟨rfl, h1⟩; replace qr := qr.kept h1; replace q := q.kept h1; replace r := r.kept h1; replace hb := below_then hb h1; clear h1 k10 d0 d1 d2 d3 d4 d5 d6 d7; obtain ⟨d0, d1, d2, d3, d4, d5, d6, d7⟩ := q.cfg; obtain ⟨z0, z1, z2, z3, z4, z5, z6, z7, z8, z9, z10, z11⟩ := qr.c12; obtain ⟨o0, o1, o2, o3, o4, o5, o6, o7, o8, o9, o10, o11⟩ := qr.o12))
  obtain ⟨W9, eW9, q9', only9, hz9⟩ := set12 qr (.int .i64 0) (.int .i64 0) (.int .i64 0) (.int .i64 0) (.int .i64 0) (.int .i64 0) (.int .i64 0) (.int .i64 0) nilS nilS nilS nilS
  rw [eW9]
  refine bodyPost_ret (v := .tuple #[.agg #[.int .i64 0, .int .i64 0, .int .i64 0, .int .i64 0, .int .i64 0, .int .i64 0, .int .i64 0, .int .i64 0, nilS, nilS, nilS, nilS], .int .i64 1]) ?_ rfl ⟨rfl, Only.below hb (by omega) hb.size only9⟩
  obtain ⟨y0, y1, y2, y3, y4, y5, y6, y7, y8, y9, y10, y11⟩ := q9'.c12
  simp [results, Try.results23, go_sem, y0, y1, y2, y3, y4, y5, y6, y7, y8, y9, y10, y11]

set_option maxRecDepth 20000 in
set_option maxHeartbeats 4000000 in
theorem refDecode_end (s OT S0 S1 S2 S3 S4 S5 S6 S7 S8 : ByteArray) (E1 E2 E3 E4 E5 E6 E7 E8 V0 V1 V2 V3 V4 V5 V6 V7 : Int) (w : World) (hs : s.size ≤ 9223372036854775805) (hOT : OT.size ≤ 9223372036854775805) (k50 : ∀ W, Calls Try.prog 50 #[.string s] W fun e w' => e = .returned (.tuple #[.string OT, .int .i64 0]) ∧ Below W.heap.size W w') (hl : ¬ (16384 : Int) < (s.size : Int)) (hld : decide ((16384 : Int) < (s.size : Int)) = false) (htd : decide ((OT.size : Int) < 2) = false) (ht : ¬ (OT.size : Int) < 2) (ht' : ¬ OT.size < 2) (ht3 : 2 ≤ OT.size) (PA : ByteArray) (ep : OT.extract 0 2 = PA) (hp : (PA.toList == [65, 86]) = true) (eb : OT.extract 2 OT.size = S0)
    (c0 : ∀ b W, Rd 75 W b S0 0 → Calls Try.prog 51 #[.pointer (some ⟨b, 0, none⟩)] W fun r w' => r = .returned (.int .i64 V0) ∧ Rd 75 w' b S1 E1 ∧ Only b W w') (c1 : ∀ b W, Rd 75 W b S1 E1 → Calls Try.prog 51 #[.pointer (some ⟨b, 0, none⟩)] W fun r w' => r = .returned (.int .i64 V1) ∧ Rd 75 w' b S2 E2 ∧ Only b W w') (c2 : ∀ b W, Rd 75 W b S2 E2 → Calls Try.prog 51 #[.pointer (some ⟨b, 0, none⟩)] W fun r w' => r = .returned (.int .i64 V2) ∧ Rd 75 w' b S3 E3 ∧ Only b W w') (c3 : ∀ b W, Rd 75 W b S3 E3 → Calls Try.prog 51 #[.pointer (some ⟨b, 0, none⟩)] W fun r w' => r = .returned (.int .i64 V3) ∧ Rd 75 w' b S4 E4 ∧ Only b W w') (c4 : ∀ b W, Rd 75 W b S4 E4 → Calls Try.prog 51 #[.pointer (some ⟨b, 0, none⟩)] W fun r w' => r = .returned (.int .i64 V4) ∧ Rd 75 w' b S5 E5 ∧ Only b W w') (c5 : ∀ b W, Rd 75 W b S5 E5 → Calls Try.prog 51 #[.pointer (some ⟨b, 0, none⟩)] W fun r w' => r = .returned (.int .i64 V5) ∧ Rd 75 w' b S6 E6 ∧ Only b W w') (c6 : ∀ b W, Rd 75 W b S6 E6 → Calls Try.prog 51 #[.pointer (some ⟨b, 0, none⟩)] W fun r w' => r = .returned (.int .i64 V6) ∧ Rd 75 w' b S7 E7 ∧ Only b W w') (c7 : ∀ b W, Rd 75 W b S7 E7 → Calls Try.prog 51 #[.pointer (some ⟨b, 0, none⟩)] W fun r w' => r = .returned (.int .i64 V7) ∧ Rd 75 w' b S8 E8 ∧ Only b W w') (Z : Int) (zs : List Int) (SW : ByteArray) (EW EE : Int) (k10 : ∀ w, Calls Try.prog 10 #[.agg #[.int .i64 V0, .int .i64 V1, .int .i64 V2, .int .i64 V3, .int .i64 V4, .int .i64 V5, .int .i64 V6, .int .i64 V7]] w fun e w' => e = .returned (.bool true) ∧ Below w.heap.size w w') (k12 : ∀ w, Calls Try.prog 12 #[.agg #[.int .i64 V0, .int .i64 V1, .int .i64 V2, .int .i64 V3, .int .i64 V4, .int .i64 V5, .int .i64 V6, .int .i64 V7]] w fun e w' => e = .returned (.int .i64 Z) ∧ Below w.heap.size w w') (k52 : ∀ b W, Rd 75 W b S8 E8 → Calls Try.prog 52 #[.pointer (some ⟨b, 0, none⟩), .int .i64 Z] W fun r w' => (∃ a m c, r = .returned (.slice a m c) ∧ Reads .i8 w' a m zs ∧ m ≤ c ∧ (a = none → c = 0)) ∧ Rd 75 w' b SW EW ∧ Only b W w') (k53 : ∀ b W, Rd 75 W b SW EW → Calls Try.prog 53 #[.pointer (some ⟨b, 0, none⟩)] W fun r w' => r = .returned (.int .i64 EE) ∧ w' = W) (hEE : (EE == 0) = false) (hEE2 : (EE != 0) = true) :
    Calls Try.prog 23 #[.string s] w fun e w' => e = .returned (.tuple #[.agg #[.int .i64 0, .int .i64 0, .int .i64 0, .int .i64 0, .int .i64 0, .int .i64 0, .int .i64 0, .int .i64 0, nilS, nilS, nilS, nilS], .int .i64 1]) ∧ Below w.heap.size w w' := by
  have hb := below_new (Below.refl w.heap.size w) (.cells #[.int .i64 0, .int .i64 0, .int .i64 0, .int .i64 0, .int .i64 0, .int .i64 0, .int .i64 0, .int .i64 0, nilS, nilS, nilS, nilS] 29)
  have qr := Blk.new 29 w #[.int .i64 0, .int .i64 0, .int .i64 0, .int .i64 0, .int .i64 0, .int .i64 0, .int .i64 0, .int .i64 0, nilS, nilS, nilS, nilS]
  go_enter Try.func23, Try.ntmps23
  go_wp2_with (first
    | (go_at_call 50; refine (k50 _).mono ?_; rintro e W1 ⟨rfl, h1⟩; replace qr := qr.kept h1; replace hb := below_then hb h1; have hrl := qr.lt; have r := Rd.new 75 W1 S0 0; replace qr := qr.kept (below_new (Below.refl _ _) (.cells #[.string S0, .int .i64 0] 75)); replace hb := below_new hb (.cells #[.string S0, .int .i64 0] 75); clear h1 k50)
    | (go_at_call 51; refine (c0 _ _ r).mono ?_; rintro e X0 ⟨rfl, r1, o1⟩; replace qr := qr.only o1 (by omega); replace hb := Only.below hb (by omega) hb.size o1; replace r := r1; have sz0 := o1.size; clear o1 r1 c0)
    | (go_at_call 51; refine (c1 _ _ r).mono ?_; rintro e X1 ⟨rfl, r1, o1⟩; replace qr := qr.only o1 (by omega); replace hb := Only.below hb (by omega) hb.size o1; replace r := r1; have sz1 := o1.size; clear o1 r1 c1)
    | (go_at_call 51; refine (c2 _ _ r).mono ?_; rintro e X2 ⟨rfl, r1, o1⟩; replace qr := qr.only o1 (by omega); replace hb := Only.below hb (by omega) hb.size o1; replace r := r1; have sz2 := o1.size; clear o1 r1 c2)
    | (go_at_call 51; refine (c3 _ _ r).mono ?_; rintro e X3 ⟨rfl, r1, o1⟩; replace qr := qr.only o1 (by omega); replace hb := Only.below hb (by omega) hb.size o1; replace r := r1; have sz3 := o1.size; clear o1 r1 c3)
    | (go_at_call 51; refine (c4 _ _ r).mono ?_; rintro e X4 ⟨rfl, r1, o1⟩; replace qr := qr.only o1 (by omega); replace hb := Only.below hb (by omega) hb.size o1; replace r := r1; have sz4 := o1.size; clear o1 r1 c4)
    | (go_at_call 51; refine (c5 _ _ r).mono ?_; rintro e X5 ⟨rfl, r1, o1⟩; replace qr := qr.only o1 (by omega); replace hb := Only.below hb (by omega) hb.size o1; replace r := r1; have sz5 := o1.size; clear o1 r1 c5)
    | (go_at_call 51; refine (c6 _ _ r).mono ?_; rintro e X6 ⟨rfl, r1, o1⟩; replace qr := qr.only o1 (by omega); replace hb := Only.below hb (by omega) hb.size o1; replace r := r1; have sz6 := o1.size; clear o1 r1 c6)
    | (go_at_call 51; refine (c7 _ _ r).mono ?_; rintro e X7 ⟨rfl, r1, o1⟩; replace qr := qr.only o1 (by omega); replace hb := Only.below hb (by omega) hb.size o1; replace r := r1; have sz7 := o1.size; clear o1 r1 c7; have rlt := r.lt; obtain ⟨A, eA⟩ : ∃ A, X7.alloc (.cells #[.int .i64 V0, .int .i64 V1, .int .i64 V2, .int .i64 V3, .int .i64 V4, .int .i64 V5, .int .i64 V6, .int .i64 V7] 23) = A := ⟨_, rfl⟩; have bA : Below X7.heap.size X7 A := eA ▸ below_new (Below.refl _ _) _; have q : Blk 23 A X7.heap.size #[.int .i64 V0, .int .i64 V1, .int .i64 V2, .int .i64 V3, .int .i64 V4, .int .i64 V5, .int .i64 V6, .int .i64 V7] := eA ▸ Blk.new 23 X7 _; replace qr := qr.kept bA; replace hb := below_then hb bA; replace r := r.kept bA; clear bA; obtain ⟨d0, d1, d2, d3, d4, d5, d6, d7⟩ := q.cfg)
    | (go_at_call 10; refine (k10 _).mono ?_; rintro e W2 ⟨rfl, h1⟩; replace qr := qr.kept h1; replace q := q.kept h1; replace r := r.kept h1; replace hb := below_then hb h1; clear h1 k10 d0 d1 d2 d3 d4 d5 d6 d7; obtain ⟨d0, d1, d2, d3, d4, d5, d6, d7⟩ := q.cfg; obtain ⟨z0, z1, z2, z3, z4, z5, z6, z7, z8, z9, z10, z11⟩ := qr.c12; obtain ⟨o0, o1, o2, o3, o4, o5, o6, o7, o8, o9, o10, o11⟩ := qr.o12)
    | (go_at_call 12; refine (k12 _).mono ?_; rintro e W3 ⟨rfl, h1⟩; replace qr := qr.kept h1; replace q := q.kept h1; replace r := r.kept h1; replace hb := below_then hb h1; clear h1 z0 z1 z2 z3 z4 z5 z6 z7 z8 z9 z10 z11 o0 o1 o2 o3 o4 o5 o6 o7 o8 o9 o10 o11 k12 d0 d1 d2 d3 d4 d5 d6 d7; obtain ⟨d0, d1, d2, d3, d4, d5, d6, d7⟩ := q.cfg)
    | (go_at_call 52; refine (k52 _ _ r).mono ?_; rintro e W4 ⟨⟨wa, wn, wc, rfl, wrd, wcap, wnil⟩, r1, o1'⟩; have qq := q.only o1' (by omega); replace qr := qr.only o1' (by omega); replace hb := Only.below hb (by omega) hb.size o1'; replace r := r1; clear r1 o1' k52 q d0 d1 d2 d3 d4 d5 d6 d7; obtain ⟨d0, d1, d2, d3, d4, d5, d6, d7⟩ := qq.cfg)
    | (go_at_call 53; refine (k53 _ _ r).mono ?_; rintro e W5 ⟨rfl, h5⟩; obtain rfl := h5.symm; clear k53; obtain ⟨z0, z1, z2, z3, z4, z5, z6, z7, z8, z9, z10, z11⟩ := qr.c12; obtain ⟨o0, o1, o2, o3, o4, o5, o6, o7, o8, o9, o10, o11⟩ := qr.o12))
  obtain ⟨W9, eW9, q9', only9, hz9⟩ := set12 qr (.int .i64 0) (.int .i64 0) (.int .i64 0) (.int .i64 0) (.int .i64 0) (.int .i64 0) (.int .i64 0) (.int .i64 0) nilS nilS nilS nilS
  rw [eW9]
  refine bodyPost_ret (v := .tuple #[.agg #[.int .i64 0, .int .i64 0, .int .i64 0, .int .i64 0, .int .i64 0, .int .i64 0, .int .i64 0, .int .i64 0, nilS, nilS, nilS, nilS], .int .i64 1]) ?_ rfl ⟨rfl, Only.below hb (by omega) hb.size only9⟩
  obtain ⟨y0, y1, y2, y3, y4, y5, y6, y7, y8, y9, y10, y11⟩ := q9'.c12
  simp [results, Try.results23, go_sem, y0, y1, y2, y3, y4, y5, y6, y7, y8, y9, y10, y11]

set_option maxRecDepth 20000 in
set_option maxHeartbeats 4000000 in
theorem refDecode_good (s OT S0 S1 S2 S3 S4 S5 S6 S7 S8 : ByteArray) (E1 E2 E3 E4 E5 E6 E7 E8 V0 V1 V2 V3 V4 V5 V6 V7 : Int) (w : World) (hs : s.size ≤ 9223372036854775805) (hOT : OT.size ≤ 9223372036854775805) (k50 : ∀ W, Calls Try.prog 50 #[.string s] W fun e w' => e = .returned (.tuple #[.string OT, .int .i64 0]) ∧ Below W.heap.size W w') (hl : ¬ (16384 : Int) < (s.size : Int)) (hld : decide ((16384 : Int) < (s.size : Int)) = false) (htd : decide ((OT.size : Int) < 2) = false) (ht : ¬ (OT.size : Int) < 2) (ht' : ¬ OT.size < 2) (ht3 : 2 ≤ OT.size) (PA : ByteArray) (ep : OT.extract 0 2 = PA) (hp : (PA.toList == [65, 86]) = true) (eb : OT.extract 2 OT.size = S0)
    (c0 : ∀ b W, Rd 75 W b S0 0 → Calls Try.prog 51 #[.pointer (some ⟨b, 0, none⟩)] W fun r w' => r = .returned (.int .i64 V0) ∧ Rd 75 w' b S1 E1 ∧ Only b W w') (c1 : ∀ b W, Rd 75 W b S1 E1 → Calls Try.prog 51 #[.pointer (some ⟨b, 0, none⟩)] W fun r w' => r = .returned (.int .i64 V1) ∧ Rd 75 w' b S2 E2 ∧ Only b W w') (c2 : ∀ b W, Rd 75 W b S2 E2 → Calls Try.prog 51 #[.pointer (some ⟨b, 0, none⟩)] W fun r w' => r = .returned (.int .i64 V2) ∧ Rd 75 w' b S3 E3 ∧ Only b W w') (c3 : ∀ b W, Rd 75 W b S3 E3 → Calls Try.prog 51 #[.pointer (some ⟨b, 0, none⟩)] W fun r w' => r = .returned (.int .i64 V3) ∧ Rd 75 w' b S4 E4 ∧ Only b W w') (c4 : ∀ b W, Rd 75 W b S4 E4 → Calls Try.prog 51 #[.pointer (some ⟨b, 0, none⟩)] W fun r w' => r = .returned (.int .i64 V4) ∧ Rd 75 w' b S5 E5 ∧ Only b W w') (c5 : ∀ b W, Rd 75 W b S5 E5 → Calls Try.prog 51 #[.pointer (some ⟨b, 0, none⟩)] W fun r w' => r = .returned (.int .i64 V5) ∧ Rd 75 w' b S6 E6 ∧ Only b W w') (c6 : ∀ b W, Rd 75 W b S6 E6 → Calls Try.prog 51 #[.pointer (some ⟨b, 0, none⟩)] W fun r w' => r = .returned (.int .i64 V6) ∧ Rd 75 w' b S7 E7 ∧ Only b W w') (c7 : ∀ b W, Rd 75 W b S7 E7 → Calls Try.prog 51 #[.pointer (some ⟨b, 0, none⟩)] W fun r w' => r = .returned (.int .i64 V7) ∧ Rd 75 w' b S8 E8 ∧ Only b W w') (Z : Int) (zs : List Int) (SW : ByteArray) (EW : Int) (m : ModV) (k10 : ∀ w, Calls Try.prog 10 #[.agg #[.int .i64 V0, .int .i64 V1, .int .i64 V2, .int .i64 V3, .int .i64 V4, .int .i64 V5, .int .i64 V6, .int .i64 V7]] w fun e w' => e = .returned (.bool true) ∧ Below w.heap.size w w') (k12 : ∀ w, Calls Try.prog 12 #[.agg #[.int .i64 V0, .int .i64 V1, .int .i64 V2, .int .i64 V3, .int .i64 V4, .int .i64 V5, .int .i64 V6, .int .i64 V7]] w fun e w' => e = .returned (.int .i64 Z) ∧ Below w.heap.size w w') (k52 : ∀ b W, Rd 75 W b S8 E8 → Calls Try.prog 52 #[.pointer (some ⟨b, 0, none⟩), .int .i64 Z] W fun r w' => (∃ a m c, r = .returned (.slice a m c) ∧ Reads .i8 w' a m zs ∧ m ≤ c ∧ (a = none → c = 0)) ∧ Rd 75 w' b SW EW ∧ Only b W w') (k53 : ∀ b W, Rd 75 W b SW EW → Calls Try.prog 53 #[.pointer (some ⟨b, 0, none⟩)] W fun r w' => r = .returned (.int .i64 0) ∧ w' = W) (hz : 0 < zs.length)
    (k25 : ∀ W xa wn wc, Reads .i8 W (some xa) wn zs → wn ≤ wc → Calls Try.prog 25 #[.agg #[.int .i64 V0, .int .i64 V1, .int .i64 V2, .int .i64 V3, .int .i64 V4, .int .i64 V5, .int .i64 V6, .int .i64 V7], .slice (some xa) wn wc] W fun e w' => ∃ E L N O : SL, ∃ Y U D', e = .returned (.tuple #[.agg #[.int .i64 V0, .int .i64 V1, .int .i64 V2, .int .i64 V3, .int .i64 V4, .int .i64 V5, .int .i64 V6, .int .i64 V7, .slice E.a E.n E.c, .slice L.a L.n L.c, .slice N.a N.n N.c, .slice O.a O.n O.c], .int .i64 0]) ∧ NewM W.heap.size w' E L N O Y U D' m ∧ Below W.heap.size W w') :
    Calls Try.prog 23 #[.string s] w fun e w' => ∃ E L N O : SL, ∃ Y U D', e = .returned (.tuple #[.agg #[.int .i64 V0, .int .i64 V1, .int .i64 V2, .int .i64 V3, .int .i64 V4, .int .i64 V5, .int .i64 V6, .int .i64 V7, .slice E.a E.n E.c, .slice L.a L.n L.c, .slice N.a N.n N.c, .slice O.a O.n O.c], .int .i64 0]) ∧ NewM w.heap.size w' E L N O Y U D' m ∧ Below w.heap.size w w' := by
  have hb := below_new (Below.refl w.heap.size w) (.cells #[.int .i64 0, .int .i64 0, .int .i64 0, .int .i64 0, .int .i64 0, .int .i64 0, .int .i64 0, .int .i64 0, nilS, nilS, nilS, nilS] 29)
  have qr := Blk.new 29 w #[.int .i64 0, .int .i64 0, .int .i64 0, .int .i64 0, .int .i64 0, .int .i64 0, .int .i64 0, .int .i64 0, nilS, nilS, nilS, nilS]
  go_enter Try.func23, Try.ntmps23
  go_wp2_with (first
    | (go_at_call 50; refine (k50 _).mono ?_; rintro e W1 ⟨rfl, h1⟩; replace qr := qr.kept h1; replace hb := below_then hb h1; have hrl := qr.lt; have r := Rd.new 75 W1 S0 0; replace qr := qr.kept (below_new (Below.refl _ _) (.cells #[.string S0, .int .i64 0] 75)); replace hb := below_new hb (.cells #[.string S0, .int .i64 0] 75); clear h1 k50)
    | (go_at_call 51; refine (c0 _ _ r).mono ?_; rintro e X0 ⟨rfl, r1, o1⟩; replace qr := qr.only o1 (by omega); replace hb := Only.below hb (by omega) hb.size o1; replace r := r1; have sz0 := o1.size; clear o1 r1 c0)
    | (go_at_call 51; refine (c1 _ _ r).mono ?_; rintro e X1 ⟨rfl, r1, o1⟩; replace qr := qr.only o1 (by omega); replace hb := Only.below hb (by omega) hb.size o1; replace r := r1; have sz1 := o1.size; clear o1 r1 c1)
    | (go_at_call 51; refine (c2 _ _ r).mono ?_; rintro e X2 ⟨rfl, r1, o1⟩; replace qr := qr.only o1 (by omega); replace hb := Only.below hb (by omega) hb.size o1; replace r := r1; have sz2 := o1.size; clear o1 r1 c2)
    | (go_at_call 51; refine (c3 _ _ r).mono ?_; rintro e X3 ⟨rfl, r1, o1⟩; replace qr := qr.only o1 (by omega); replace hb := Only.below hb (by omega) hb.size o1; replace r := r1; have sz3 := o1.size; clear o1 r1 c3)
    | (go_at_call 51; refine (c4 _ _ r).mono ?_; rintro e X4 ⟨rfl, r1, o1⟩; replace qr := qr.only o1 (by omega); replace hb := Only.below hb (by omega) hb.size o1; replace r := r1; have sz4 := o1.size; clear o1 r1 c4)
    | (go_at_call 51; refine (c5 _ _ r).mono ?_; rintro e X5 ⟨rfl, r1, o1⟩; replace qr := qr.only o1 (by omega); replace hb := Only.below hb (by omega) hb.size o1; replace r := r1; have sz5 := o1.size; clear o1 r1 c5)
    | (go_at_call 51; refine (c6 _ _ r).mono ?_; rintro e X6 ⟨rfl, r1, o1⟩; replace qr := qr.only o1 (by omega); replace hb := Only.below hb (by omega) hb.size o1; replace r := r1; have sz6 := o1.size; clear o1 r1 c6)
    | (go_at_call 51; refine (c7 _ _ r).mono ?_; rintro e X7 ⟨rfl, r1, o1⟩; replace qr := qr.only o1 (by omega); replace hb := Only.below hb (by omega) hb.size o1; replace r := r1; have sz7 := o1.size; clear o1 r1 c7; have rlt := r.lt; obtain ⟨A, eA⟩ : ∃ A, X7.alloc (.cells #[.int .i64 V0, .int .i64 V1, .int .i64 V2, .int .i64 V3, .int .i64 V4, .int .i64 V5, .int .i64 V6, .int .i64 V7] 23) = A := ⟨_, rfl⟩; have bA : Below X7.heap.size X7 A := eA ▸ below_new (Below.refl _ _) _; have q : Blk 23 A X7.heap.size #[.int .i64 V0, .int .i64 V1, .int .i64 V2, .int .i64 V3, .int .i64 V4, .int .i64 V5, .int .i64 V6, .int .i64 V7] := eA ▸ Blk.new 23 X7 _; replace qr := qr.kept bA; replace hb := below_then hb bA; replace r := r.kept bA; clear bA; obtain ⟨d0, d1, d2, d3, d4, d5, d6, d7⟩ := q.cfg)
    | (go_at_call 10; refine (k10 _).mono ?_; rintro e W2 ⟨rfl, h1⟩; replace qr := qr.kept h1; replace q := q.kept h1; replace r := r.kept h1; replace hb := below_then hb h1; clear h1 k10 d0 d1 d2 d3 d4 d5 d6 d7; obtain ⟨d0, d1, d2, d3, d4, d5, d6, d7⟩ := q.cfg)
    | (go_at_call 12; refine (k12 _).mono ?_; rintro e W3 ⟨rfl, h1⟩; replace qr := qr.kept h1; replace q := q.kept h1; replace r := r.kept h1; replace hb := below_then hb h1; clear h1 k12 d0 d1 d2 d3 d4 d5 d6 d7; obtain ⟨d0, d1, d2, d3, d4, d5, d6, d7⟩ := q.cfg)
    | (go_at_call 52; refine (k52 _ _ r).mono ?_; rintro e W4 ⟨⟨wa, wn, wc, rfl, wrd, wcap, wnil⟩, r1, o1'⟩; have qq := q.only o1' (by omega); replace qr := qr.only o1' (by omega); replace hb := Only.below hb (by omega) hb.size o1'; replace r := r1; clear r1 o1' k52 q d0 d1 d2 d3 d4 d5 d6 d7; obtain ⟨d0, d1, d2, d3, d4, d5, d6, d7⟩ := qq.cfg)
    | (go_at_call 53; refine (k53 _ _ r).mono ?_; rintro e W5 ⟨rfl, h5⟩; obtain rfl := h5.symm; clear k53; obtain ⟨xw, exw⟩ := wrd.some_ (by have := wrd.len; omega); subst exw)
    | (go_at_call 25; refine (k25 _ xw wn wc wrd wcap).mono ?_; rintro e W6 ⟨E, L, N, O, Y, U, D', rfl, hM, h6⟩; have lt3 := qr.lt; replace hb := below_new (below_then hb h6) (.cells #[.int .i64 V0, .int .i64 V1, .int .i64 V2, .int .i64 V3, .int .i64 V4, .int .i64 V5, .int .i64 V6, .int .i64 V7, .slice E.a E.n E.c, .slice L.a L.n L.c, .slice N.a N.n N.c, .slice O.a O.n O.c] 29); replace qr := (qr.kept h6).kept (below_new (Below.refl _ _) (.cells #[.int .i64 V0, .int .i64 V1, .int .i64 V2, .int .i64 V3, .int .i64 V4, .int .i64 V5, .int .i64 V6, .int .i64 V7, .slice E.a E.n E.c, .slice L.a L.n L.c, .slice N.a N.n N.c, .slice O.a O.n O.c] 29)); replace hM := hM.below (below_new (Below.refl _ _) (.cells #[.int .i64 V0, .int .i64 V1, .int .i64 V2, .int .i64 V3, .int .i64 V4, .int .i64 V5, .int .i64 V6, .int .i64 V7, .slice E.a E.n E.c, .slice L.a L.n L.c, .slice N.a N.n N.c, .slice O.a O.n O.c] 29)); clear h6 d0 d1 d2 d3 d4 d5 d6 d7; obtain ⟨z0, z1, z2, z3, z4, z5, z6, z7, z8, z9, z10, z11⟩ := qr.c12; obtain ⟨o0, o1, o2, o3, o4, o5, o6, o7, o8, o9, o10, o11⟩ := qr.o12))
  obtain ⟨W9, eW9, q9', only9, hz9⟩ := set12 qr (.int .i64 V0) (.int .i64 V1) (.int .i64 V2) (.int .i64 V3) (.int .i64 V4) (.int .i64 V5) (.int .i64 V6) (.int .i64 V7) (.slice E.a E.n E.c) (.slice L.a L.n L.c) (.slice N.a N.n N.c) (.slice O.a O.n O.c)
  rw [eW9]
  refine bodyPost_ret (v := .tuple #[.agg #[.int .i64 V0, .int .i64 V1, .int .i64 V2, .int .i64 V3, .int .i64 V4, .int .i64 V5, .int .i64 V6, .int .i64 V7, .slice E.a E.n E.c, .slice L.a L.n L.c, .slice N.a N.n N.c, .slice O.a O.n O.c], .int .i64 0]) ?_ rfl ⟨E, L, N, O, Y, U, D', rfl, (hM.only only9 lt3).le (Nat.le_of_lt lt3), Only.below hb (Nat.le_refl _) hb.size only9⟩
  obtain ⟨y0, y1, y2, y3, y4, y5, y6, y7, y8, y9, y10, y11⟩ := q9'.c12
  simp [results, Try.results23, go_sem, y0, y1, y2, y3, y4, y5, y6, y7, y8, y9, y10, y11]

end Go.Proofs.Ytjbeloljbjfibaa
