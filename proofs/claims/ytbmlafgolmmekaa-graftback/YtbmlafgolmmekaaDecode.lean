/- Decode of any text for any configuration: the program's. -/
import Derived.Test.YtbmlafgolmmekaaRows
import Derived.Test.YtbmlafgolmmekaaView
import Derived.Test.YtbmlafgolmmekaaOwn
import Derived.Test.YtbmlafgolmmekaaCfg
import Derived.Test.YtbmlafgolmmekaaCfgs
import Derived.Test.YtbmlafgolmmekaaCfgRef
import Derived.Test.YtbmlafgolmmekaaHeld
import Derived.Test.YtbmlafgolmmekaaReader
import Derived.Test.YtbmlafgolmmekaaSls
import Derived.Test.YtbmlafgolmmekaaSteps
import Derived.Test.YtbmlafgolmmekaaInv
import Derived.Test.YtbmlafgolmmekaaTyped
import Derived.Test.YtbmlafgolmmekaaAds
import Derived.Test.YtbmlafgolmmekaaRanges
import Derived.Test.YtbmlafgolmmekaaTexts
import Derived.Test.YtbmlafgolmmekaaSums
import Derived.Test.YtbmlafgolmmekaaSeals
import Derived.Test.YtbmlafgolmmekaaOpens
import Derived.Test.YtbmlafgolmmekaaWts
import Derived.Test.YtbmlafgolmmekaaTwos
import Derived.Test.YtbmlafgolmmekaaRdWts
import Derived.Test.YtbmlafgolmmekaaPrefix
import Derived.Test.YtbmlafgolmmekaaCheck
import Derived.Test.YtbmlafgolmmekaaPlan
import Derived.Test.YtbmlafgolmmekaaFlat
import Derived.Test.YtbmlafgolmmekaaShape
import Derived.Test.YtbmlafgolmmekaaPush
import Derived.Test.YtbmlafgolmmekaaNext
import Derived.Test.YtbmlafgolmmekaaRefShape
import Derived.Test.YtbmlafgolmmekaaShapes
import Derived.Test.YtbmlafgolmmekaaBody
import Derived.WalkKit
import Derived.ProofKit
import Derived.OpenShut
import Derived.Below
import Derived.WalkLawsBesides
import Derived.Deep.QuietTactic
import Derived.BigQuiet
import Derived.Lib.QuietBelow
import Derived.Deep.RegionHeld3
namespace Go.Proofs.Ytbmlafgolmmekaa
open Go.ChangeShapes Go.WideShapes Go.ChangeAt Go.RowKit
open Go.Sort hiding Below
set_option linter.unusedVariables false
set_option linter.unusedSimpArgs false


/-- what stands behind the letters, read number by number -/
def rk (b : ByteArray) : Int := twoV b 0
def sf (b : ByteArray) : Int := twoV (twoS b 0) (twoE b 0)
def tl (b : ByteArray) : ByteArray := twoS (twoS b 0) (twoE b 0)
def te (b : ByteArray) : Int := twoE (twoS b 0) (twoE b 0)
def rdZ (d l : Int) (b : ByteArray) : Int := l * 4 * (rk b * d)
def rdWs (d l : Int) (b : ByteArray) : List Int := wtV (tl b) (te b) (rdZ d l b)
def rdE (d l : Int) (b : ByteArray) : Int := wtE (tl b) (te b) (rdZ d l b)
def rdEnd (d l : Int) (b : ByteArray) : Int := endV (wtS (tl b) (te b) (rdZ d l b)) (rdE d l b)
def bodyOK (d h l v u x t n : Int) (b : ByteArray) : Bool := okA (rk b) (sf b) d h l v u x t n && decide (rdEnd d l b = 0)
def bodyM (d l : Int) (b : ByteArray) : AdV := shapeV l.toNat (rk b * d).toNat (rdWs d l b)

theorem rdWs_len (d l : Int) (b : ByteArray) (h : rdEnd d l b = 0) : (rdWs d l b).length = (rdZ d l b).toNat := by
  have e : rdE d l b = 0 := by
    unfold rdEnd endV at h
    split at h
    · omega
    · exact h
  unfold rdWs wtV
  unfold rdE at e
  rw [if_pos e, i8s_length]

theorem body_call (d h l v u x t n : Int) (b : ByteArray) (w : World) (okc : okB d h l v u x t n = true) : Calls Try.prog 39 #[.string b, .agg #[.int .i64 d, .int .i64 h, .int .i64 l, .int .i64 v, .int .i64 u, .int .i64 x, .int .i64 t, .int .i64 n]] w fun e w' => if bodyOK d h l v u x t n b = true then (∃ (L : SL) (Y : Nat → Nat → SL), e = .returned (.tuple #[.agg #[.int .i64 (rk b), .int .i64 (sf b), .slice L.a L.n L.c], .int .i64 0]) ∧ NewA w.heap.size w' L Y (bodyM d l b) ∧ Below w.heap.size w w')
    else (e = .returned (.tuple #[.agg #[.int .i64 0, .int .i64 0, nilS], .int .i64 1]) ∧ Below w.heap.size w w') := by
  have cl : 2 ≤ d ∧ d ≤ 8 ∧ 1 ≤ l ∧ l ≤ 2 := by
    unfold okB headsB at okc
    simp only [Bool.and_eq_true, decide_eq_true_eq] at okc
    omega
  obtain ⟨d0, d1, l0, l1⟩ := cl
  have rb := twoV_bounds b 0
  have p0 : 0 ≤ rk b * d := Int.mul_nonneg rb.1 (by omega)
  have p1 : rk b * d ≤ 65535 * 8 := Int.mul_le_mul rb.2 d1 (by omega) (by omega)
  have z0 : 0 ≤ rdZ d l b := Int.mul_nonneg (by omega) p0
  have z1 : rdZ d l b ≤ 8 * (65535 * 8) := Int.mul_le_mul (show l * 4 ≤ 8 by omega) p1 p0 (by omega)
  have k45 := size_call (rk b) d h l v u x t n (rk b * d) (rdZ d l b) rfl (by omega) (by omega) (l * 4) rfl (by omega) (by omega) rfl (by omega) (by omega)
  have c0 := fun W (r : Rd 94 W (w.heap.size + 1 + 1) b 0) => two_reader r
  have c1 := fun W (r : Rd 94 W (w.heap.size + 1 + 1) (twoS b 0) (twoE b 0)) => two_reader r
  have c2 : ∀ W, Rd 94 W (w.heap.size + 1 + 1) (tl b) (te b) → Calls Try.prog 59 #[.pointer (some ⟨w.heap.size + 1 + 1, 0, none⟩), .int .i64 (rdZ d l b)] W fun r w' => (∃ s : SL, r = .returned (.slice s.a s.n s.c) ∧ IsS w' s (rdWs d l b)) ∧ Rd 94 w' (w.heap.size + 1 + 1) (wtS (tl b) (te b) (rdZ d l b)) (rdE d l b) ∧ Only (w.heap.size + 1 + 1) W w' := fun W r =>
    (weights_reader r (rdZ d l b)).mono fun r w' ⟨⟨a, m, c, h1, h2, _, h3, x, h4⟩, h5, h6⟩ => ⟨⟨⟨a, m, c⟩, h1, h2, (fun e => by rw [h4] at e; cases e), h3⟩, h5, h6⟩
  have c3 : ∀ W, Rd 94 W (w.heap.size + 1 + 1) (wtS (tl b) (te b) (rdZ d l b)) (rdE d l b) → Calls Try.prog 60 #[.pointer (some ⟨w.heap.size + 1 + 1, 0, none⟩)] W fun r w' => r = .returned (.int .i64 (rdEnd d l b)) ∧ w' = W := fun W r => end_reader r
  by_cases he : rdEnd d l b = 0
  · have wl := rdWs_len d l b he
    cases ok : okA (rk b) (sf b) d h l v u x t n with
    | true =>
      have hB : bodyOK d h l v u x t n b = true := by unfold bodyOK; rw [ok]; simp [he]
      simp only [hB, if_true]
      have so : shpOK (rk b) (sf b) d h l v u x t n (rdWs d l b).length = true := by
        unfold shpOK
        rw [ok, wl, Int.toNat_of_nonneg z0]
        simp [rdZ]
      have se : shpE (rk b) (sf b) d h l v u x t n (rdWs d l b).length = 0 := by
        unfold shpE
        rw [if_pos ok, wl, Int.toNat_of_nonneg z0]
        exact if_pos rfl
      refine body_good d h l v u x t n b _ _ _ _ _ _ _ (rk b) (sf b) _ (rdWs d l b) w c0 c1 c2 c3 k45 he (bodyM d l b) (fun W s hs => ?_)
      have := shape_call (rk b) (sf b) d h l v u x t n s (rdWs d l b) W hs
      unfold shpM at this
      rw [so, se] at this
      exact this
    | false =>
      have hB : bodyOK d h l v u x t n b = false := by unfold bodyOK; rw [ok]; rfl
      simp only [hB, Bool.false_eq_true, if_false]
      refine body_bad d h l v u x t n b _ _ _ _ _ _ _ (rk b) (sf b) _ (rdWs d l b) w c0 c1 c2 c3 k45 he 20 (shpI (shpOK (rk b) (sf b) d h l v u x t n (rdWs d l b).length) (rk b)) (shpI (shpOK (rk b) (sf b) d h l v u x t n (rdWs d l b).length) (sf b)) (by decide) (fun W s hs => ?_)
      have := shape_call (rk b) (sf b) d h l v u x t n s (rdWs d l b) W hs
      have se : shpE (rk b) (sf b) d h l v u x t n (rdWs d l b).length = 20 := by unfold shpE; rw [ok]; rfl
      rw [se] at this
      exact this.mono fun e w' ⟨L, Y, he, _, hb⟩ => ⟨⟨L, he⟩, hb⟩
  · have hB : bodyOK d h l v u x t n b = false := by unfold bodyOK; simp [he]
    simp only [hB, Bool.false_eq_true, if_false]
    exact body_end d h l v u x t n b _ _ _ _ _ _ _ (rk b) (sf b) _ (rdWs d l b) w c0 c1 c2 c3 k45 (by simp [he])

/-- are these the bytes of an adapter that is right for the configuration, and if so, of which -/
def txtOK (s : ByteArray) : Bool := decide (s.size ≤ 16384 ∧ openE s = 0 ∧ grB (openT s) = true)
def decOK (d h l v u x t n : Int) (s : ByteArray) : Bool := okB d h l v u x t n && (txtOK s && bodyOK d h l v u x t n (bodyS (openT s)))
def decR (d h l v u x t n : Int) (s : ByteArray) : Int := if decOK d h l v u x t n s = true then rk (bodyS (openT s)) else 0
def decS (d h l v u x t n : Int) (s : ByteArray) : Int := if decOK d h l v u x t n s = true then sf (bodyS (openT s)) else 0
def decM (d h l v u x t n : Int) (s : ByteArray) : AdV := if decOK d h l v u x t n s = true then bodyM d l (bodyS (openT s)) else noA
def decE (d h l v u x t n : Int) (s : ByteArray) : Int := if decOK d h l v u x t n s = true then 0 else 1

set_option maxHeartbeats 1000000 in
theorem decode_cfg (d h l v u x t n : Int) (s : ByteArray) (w : World) (hs : s.size ≤ 9223372036854775805)
    (k36 : ∀ W, Calls Try.prog 36 #[.agg #[.int .i64 d, .int .i64 h, .int .i64 l, .int .i64 v, .int .i64 u, .int .i64 x, .int .i64 t, .int .i64 n]] W fun e w' => e = .returned (.bool false) ∧ Below W.heap.size W w') :
    Calls Try.prog 18 #[.string s, .agg #[.int .i64 d, .int .i64 h, .int .i64 l, .int .i64 v, .int .i64 u, .int .i64 x, .int .i64 t, .int .i64 n]] w fun e w' => e = .returned (.tuple #[.agg #[.int .i64 0, .int .i64 0, nilS], .int .i64 1]) ∧ Below w.heap.size w w' := by
  have hb := below_new (below_new (Below.refl w.heap.size w) (.cells #[.int .i64 d, .int .i64 h, .int .i64 l, .int .i64 v, .int .i64 u, .int .i64 x, .int .i64 t, .int .i64 n] 26)) (.cells #[.int .i64 0, .int .i64 0, nilS] 24)
  have qc : Blk 26 ((w.alloc (.cells #[.int .i64 d, .int .i64 h, .int .i64 l, .int .i64 v, .int .i64 u, .int .i64 x, .int .i64 t, .int .i64 n] 26)).alloc (.cells #[.int .i64 0, .int .i64 0, nilS] 24)) w.heap.size #[.int .i64 d, .int .i64 h, .int .i64 l, .int .i64 v, .int .i64 u, .int .i64 x, .int .i64 t, .int .i64 n] := (Blk.new 26 w _).kept (below_new (Below.refl _ _) _)
  have qr : Blk 24 ((w.alloc (.cells #[.int .i64 d, .int .i64 h, .int .i64 l, .int .i64 v, .int .i64 u, .int .i64 x, .int .i64 t, .int .i64 n] 26)).alloc (.cells #[.int .i64 0, .int .i64 0, nilS] 24)) (w.heap.size + 1) #[.int .i64 0, .int .i64 0, nilS] := Blk.new_at 24 (w.alloc _) _ _ (by simp)
  obtain ⟨c0', c1', c2', c3', c4', c5', c6', c7'⟩ := qc.cfg
  go_enter Try.func18, Try.ntmps18
  go_wp2_with (first | (go_at_call 36; refine (k36 _).mono ?_; rintro e W1 ⟨rfl, h1⟩; replace qr := qr.kept h1; replace qc := qc.kept h1; replace hb := below_then hb h1; clear h1 k36 c0' c1' c2' c3' c4' c5' c6' c7'; obtain ⟨z0, z1, z2⟩ := qr.c3; obtain ⟨o0, o1, o2⟩ := qr.o3))
  obtain ⟨W6, eW, q6, only, hz⟩ := set3 qr (.int .i64 0) (.int .i64 0) nilS
  rw [eW]
  refine bodyPost_ret (v := .tuple #[.agg #[.int .i64 0, .int .i64 0, nilS], .int .i64 1]) ?_ rfl ⟨rfl, Only.below hb (Nat.le_succ _) hb.size only⟩
  obtain ⟨y0, y1, y2⟩ := q6.c3
  simp [results, Try.results18, go_sem, y0, y1, y2]

set_option maxHeartbeats 1000000 in
theorem decode_long (d h l v u x t n : Int) (s : ByteArray) (w : World) (hs : s.size ≤ 9223372036854775805) (hl : (16384 : Int) < (s.size : Int))
    (k36 : ∀ W, Calls Try.prog 36 #[.agg #[.int .i64 d, .int .i64 h, .int .i64 l, .int .i64 v, .int .i64 u, .int .i64 x, .int .i64 t, .int .i64 n]] W fun e w' => e = .returned (.bool true) ∧ Below W.heap.size W w') :
    Calls Try.prog 18 #[.string s, .agg #[.int .i64 d, .int .i64 h, .int .i64 l, .int .i64 v, .int .i64 u, .int .i64 x, .int .i64 t, .int .i64 n]] w fun e w' => e = .returned (.tuple #[.agg #[.int .i64 0, .int .i64 0, nilS], .int .i64 1]) ∧ Below w.heap.size w w' := by
  have hb := below_new (below_new (Below.refl w.heap.size w) (.cells #[.int .i64 d, .int .i64 h, .int .i64 l, .int .i64 v, .int .i64 u, .int .i64 x, .int .i64 t, .int .i64 n] 26)) (.cells #[.int .i64 0, .int .i64 0, nilS] 24)
  have qc : Blk 26 ((w.alloc (.cells #[.int .i64 d, .int .i64 h, .int .i64 l, .int .i64 v, .int .i64 u, .int .i64 x, .int .i64 t, .int .i64 n] 26)).alloc (.cells #[.int .i64 0, .int .i64 0, nilS] 24)) w.heap.size #[.int .i64 d, .int .i64 h, .int .i64 l, .int .i64 v, .int .i64 u, .int .i64 x, .int .i64 t, .int .i64 n] := (Blk.new 26 w _).kept (below_new (Below.refl _ _) _)
  have qr : Blk 24 ((w.alloc (.cells #[.int .i64 d, .int .i64 h, .int .i64 l, .int .i64 v, .int .i64 u, .int .i64 x, .int .i64 t, .int .i64 n] 26)).alloc (.cells #[.int .i64 0, .int .i64 0, nilS] 24)) (w.heap.size + 1) #[.int .i64 0, .int .i64 0, nilS] := Blk.new_at 24 (w.alloc _) _ _ (by simp)
  obtain ⟨c0', c1', c2', c3', c4', c5', c6', c7'⟩ := qc.cfg
  go_enter Try.func18, Try.ntmps18
  go_wp2_with (first | (go_at_call 36; refine (k36 _).mono ?_; rintro e W1 ⟨rfl, h1⟩; replace qr := qr.kept h1; replace qc := qc.kept h1; replace hb := below_then hb h1; clear h1 k36 c0' c1' c2' c3' c4' c5' c6' c7'; obtain ⟨z0, z1, z2⟩ := qr.c3; obtain ⟨o0, o1, o2⟩ := qr.o3))
  obtain ⟨W6, eW, q6, only, hz⟩ := set3 qr (.int .i64 0) (.int .i64 0) nilS
  rw [eW]
  refine bodyPost_ret (v := .tuple #[.agg #[.int .i64 0, .int .i64 0, nilS], .int .i64 1]) ?_ rfl ⟨rfl, Only.below hb (Nat.le_succ _) hb.size only⟩
  obtain ⟨y0, y1, y2⟩ := q6.c3
  simp [results, Try.results18, go_sem, y0, y1, y2]

set_option maxHeartbeats 1000000 in
theorem decode_open (d h l v u x t n : Int) (s : ByteArray) (w : World) (hs : s.size ≤ 9223372036854775805) (hl : (s.size : Int) ≤ 16384) (OE : Int) (OT BT : ByteArray) (AB : Bool) (h1 : (OE == 0) = false) (h2 : (OE != 0) = true)
    (k36 : ∀ W, Calls Try.prog 36 #[.agg #[.int .i64 d, .int .i64 h, .int .i64 l, .int .i64 v, .int .i64 u, .int .i64 x, .int .i64 t, .int .i64 n]] W fun e w' => e = .returned (.bool true) ∧ Below W.heap.size W w')
    (k37 : ∀ W, Calls Try.prog 37 #[.string s] W fun e w' => e = .returned (.tuple #[.string OT, .int .i64 OE]) ∧ Below W.heap.size W w') (k38 : ∀ W, Calls Try.prog 38 #[.string OT, .string ⟨#[71, 82]⟩] W fun e w' => e = .returned (.tuple #[.string BT, .bool AB]) ∧ w' = W) :
    Calls Try.prog 18 #[.string s, .agg #[.int .i64 d, .int .i64 h, .int .i64 l, .int .i64 v, .int .i64 u, .int .i64 x, .int .i64 t, .int .i64 n]] w fun e w' => e = .returned (.tuple #[.agg #[.int .i64 0, .int .i64 0, nilS], .int .i64 1]) ∧ Below w.heap.size w w' := by
  have hb := below_new (below_new (Below.refl w.heap.size w) (.cells #[.int .i64 d, .int .i64 h, .int .i64 l, .int .i64 v, .int .i64 u, .int .i64 x, .int .i64 t, .int .i64 n] 26)) (.cells #[.int .i64 0, .int .i64 0, nilS] 24)
  have qc : Blk 26 ((w.alloc (.cells #[.int .i64 d, .int .i64 h, .int .i64 l, .int .i64 v, .int .i64 u, .int .i64 x, .int .i64 t, .int .i64 n] 26)).alloc (.cells #[.int .i64 0, .int .i64 0, nilS] 24)) w.heap.size #[.int .i64 d, .int .i64 h, .int .i64 l, .int .i64 v, .int .i64 u, .int .i64 x, .int .i64 t, .int .i64 n] := (Blk.new 26 w _).kept (below_new (Below.refl _ _) _)
  have qr : Blk 24 ((w.alloc (.cells #[.int .i64 d, .int .i64 h, .int .i64 l, .int .i64 v, .int .i64 u, .int .i64 x, .int .i64 t, .int .i64 n] 26)).alloc (.cells #[.int .i64 0, .int .i64 0, nilS] 24)) (w.heap.size + 1) #[.int .i64 0, .int .i64 0, nilS] := Blk.new_at 24 (w.alloc _) _ _ (by simp)
  obtain ⟨c0', c1', c2', c3', c4', c5', c6', c7'⟩ := qc.cfg
  go_enter Try.func18, Try.ntmps18
  go_wp2_with (first | (go_at_call 36; refine (k36 _).mono ?_; rintro e W1 ⟨rfl, h1⟩; replace qr := qr.kept h1; replace qc := qc.kept h1; replace hb := below_then hb h1; clear h1 k36 c0' c1' c2' c3' c4' c5' c6' c7'; obtain ⟨z0, z1, z2⟩ := qr.c3; obtain ⟨o0, o1, o2⟩ := qr.o3) | (go_at_call 37; refine (k37 _).mono ?_; rintro e W2 ⟨rfl, h1⟩; replace qr := qr.kept h1; replace qc := qc.kept h1; replace hb := below_then hb h1; clear h1 k37 z0 z1 z2 o0 o1 o2; obtain ⟨z0, z1, z2⟩ := qr.c3; obtain ⟨o0, o1, o2⟩ := qr.o3) | (go_at_call 38; refine (k38 _).mono ?_; rintro e W3 ⟨rfl, h1⟩; obtain rfl := h1.symm; obtain ⟨c0', c1', c2', c3', c4', c5', c6', c7'⟩ := qc.cfg))
  obtain ⟨W6, eW, q6, only, hz⟩ := set3 qr (.int .i64 0) (.int .i64 0) nilS
  rw [eW]
  refine bodyPost_ret (v := .tuple #[.agg #[.int .i64 0, .int .i64 0, nilS], .int .i64 1]) ?_ rfl ⟨rfl, Only.below hb (Nat.le_succ _) hb.size only⟩
  obtain ⟨y0, y1, y2⟩ := q6.c3
  simp [results, Try.results18, go_sem, y0, y1, y2]

set_option maxHeartbeats 1000000 in
theorem decode_let (d h l v u x t n : Int) (s : ByteArray) (w : World) (hs : s.size ≤ 9223372036854775805) (hl : (s.size : Int) ≤ 16384) (OT BT : ByteArray)
    (k36 : ∀ W, Calls Try.prog 36 #[.agg #[.int .i64 d, .int .i64 h, .int .i64 l, .int .i64 v, .int .i64 u, .int .i64 x, .int .i64 t, .int .i64 n]] W fun e w' => e = .returned (.bool true) ∧ Below W.heap.size W w')
    (k37 : ∀ W, Calls Try.prog 37 #[.string s] W fun e w' => e = .returned (.tuple #[.string OT, .int .i64 0]) ∧ Below W.heap.size W w') (k38 : ∀ W, Calls Try.prog 38 #[.string OT, .string ⟨#[71, 82]⟩] W fun e w' => e = .returned (.tuple #[.string BT, .bool false]) ∧ w' = W) :
    Calls Try.prog 18 #[.string s, .agg #[.int .i64 d, .int .i64 h, .int .i64 l, .int .i64 v, .int .i64 u, .int .i64 x, .int .i64 t, .int .i64 n]] w fun e w' => e = .returned (.tuple #[.agg #[.int .i64 0, .int .i64 0, nilS], .int .i64 1]) ∧ Below w.heap.size w w' := by
  have hb := below_new (below_new (Below.refl w.heap.size w) (.cells #[.int .i64 d, .int .i64 h, .int .i64 l, .int .i64 v, .int .i64 u, .int .i64 x, .int .i64 t, .int .i64 n] 26)) (.cells #[.int .i64 0, .int .i64 0, nilS] 24)
  have qc : Blk 26 ((w.alloc (.cells #[.int .i64 d, .int .i64 h, .int .i64 l, .int .i64 v, .int .i64 u, .int .i64 x, .int .i64 t, .int .i64 n] 26)).alloc (.cells #[.int .i64 0, .int .i64 0, nilS] 24)) w.heap.size #[.int .i64 d, .int .i64 h, .int .i64 l, .int .i64 v, .int .i64 u, .int .i64 x, .int .i64 t, .int .i64 n] := (Blk.new 26 w _).kept (below_new (Below.refl _ _) _)
  have qr : Blk 24 ((w.alloc (.cells #[.int .i64 d, .int .i64 h, .int .i64 l, .int .i64 v, .int .i64 u, .int .i64 x, .int .i64 t, .int .i64 n] 26)).alloc (.cells #[.int .i64 0, .int .i64 0, nilS] 24)) (w.heap.size + 1) #[.int .i64 0, .int .i64 0, nilS] := Blk.new_at 24 (w.alloc _) _ _ (by simp)
  obtain ⟨c0', c1', c2', c3', c4', c5', c6', c7'⟩ := qc.cfg
  go_enter Try.func18, Try.ntmps18
  go_wp2_with (first | (go_at_call 36; refine (k36 _).mono ?_; rintro e W1 ⟨rfl, h1⟩; replace qr := qr.kept h1; replace qc := qc.kept h1; replace hb := below_then hb h1; clear h1 k36 c0' c1' c2' c3' c4' c5' c6' c7'; obtain ⟨z0, z1, z2⟩ := qr.c3; obtain ⟨o0, o1, o2⟩ := qr.o3) | (go_at_call 37; refine (k37 _).mono ?_; rintro e W2 ⟨rfl, h1⟩; replace qr := qr.kept h1; replace qc := qc.kept h1; replace hb := below_then hb h1; clear h1 k37 z0 z1 z2 o0 o1 o2; obtain ⟨z0, z1, z2⟩ := qr.c3; obtain ⟨o0, o1, o2⟩ := qr.o3) | (go_at_call 38; refine (k38 _).mono ?_; rintro e W3 ⟨rfl, h1⟩; obtain rfl := h1.symm; obtain ⟨c0', c1', c2', c3', c4', c5', c6', c7'⟩ := qc.cfg))
  obtain ⟨W6, eW, q6, only, hz⟩ := set3 qr (.int .i64 0) (.int .i64 0) nilS
  rw [eW]
  refine bodyPost_ret (v := .tuple #[.agg #[.int .i64 0, .int .i64 0, nilS], .int .i64 1]) ?_ rfl ⟨rfl, Only.below hb (Nat.le_succ _) hb.size only⟩
  obtain ⟨y0, y1, y2⟩ := q6.c3
  simp [results, Try.results18, go_sem, y0, y1, y2]

set_option maxHeartbeats 1000000 in
theorem decode_body (d h l v u x t n : Int) (s : ByteArray) (w : World) (hs : s.size ≤ 9223372036854775805) (hl : (s.size : Int) ≤ 16384) (OT BT : ByteArray)
    (k36 : ∀ W, Calls Try.prog 36 #[.agg #[.int .i64 d, .int .i64 h, .int .i64 l, .int .i64 v, .int .i64 u, .int .i64 x, .int .i64 t, .int .i64 n]] W fun e w' => e = .returned (.bool true) ∧ Below W.heap.size W w')
    (k37 : ∀ W, Calls Try.prog 37 #[.string s] W fun e w' => e = .returned (.tuple #[.string OT, .int .i64 0]) ∧ Below W.heap.size W w') (k38 : ∀ W, Calls Try.prog 38 #[.string OT, .string ⟨#[71, 82]⟩] W fun e w' => e = .returned (.tuple #[.string BT, .bool true]) ∧ w' = W)
    (k39 : ∀ w, Calls Try.prog 39 #[.string BT, .agg #[.int .i64 d, .int .i64 h, .int .i64 l, .int .i64 v, .int .i64 u, .int .i64 x, .int .i64 t, .int .i64 n]] w fun e w' => e = .returned (.tuple #[.agg #[.int .i64 0, .int .i64 0, nilS], .int .i64 1]) ∧ Below w.heap.size w w') :
    Calls Try.prog 18 #[.string s, .agg #[.int .i64 d, .int .i64 h, .int .i64 l, .int .i64 v, .int .i64 u, .int .i64 x, .int .i64 t, .int .i64 n]] w fun e w' => e = .returned (.tuple #[.agg #[.int .i64 0, .int .i64 0, nilS], .int .i64 1]) ∧ Below w.heap.size w w' := by
  have hb := below_new (below_new (Below.refl w.heap.size w) (.cells #[.int .i64 d, .int .i64 h, .int .i64 l, .int .i64 v, .int .i64 u, .int .i64 x, .int .i64 t, .int .i64 n] 26)) (.cells #[.int .i64 0, .int .i64 0, nilS] 24)
  have qc : Blk 26 ((w.alloc (.cells #[.int .i64 d, .int .i64 h, .int .i64 l, .int .i64 v, .int .i64 u, .int .i64 x, .int .i64 t, .int .i64 n] 26)).alloc (.cells #[.int .i64 0, .int .i64 0, nilS] 24)) w.heap.size #[.int .i64 d, .int .i64 h, .int .i64 l, .int .i64 v, .int .i64 u, .int .i64 x, .int .i64 t, .int .i64 n] := (Blk.new 26 w _).kept (below_new (Below.refl _ _) _)
  have qr : Blk 24 ((w.alloc (.cells #[.int .i64 d, .int .i64 h, .int .i64 l, .int .i64 v, .int .i64 u, .int .i64 x, .int .i64 t, .int .i64 n] 26)).alloc (.cells #[.int .i64 0, .int .i64 0, nilS] 24)) (w.heap.size + 1) #[.int .i64 0, .int .i64 0, nilS] := Blk.new_at 24 (w.alloc _) _ _ (by simp)
  obtain ⟨c0', c1', c2', c3', c4', c5', c6', c7'⟩ := qc.cfg
  go_enter Try.func18, Try.ntmps18
  go_wp2_with (first | (go_at_call 36; refine (k36 _).mono ?_; rintro e W1 ⟨rfl, h1⟩; replace qr := qr.kept h1; replace qc := qc.kept h1; replace hb := below_then hb h1; clear h1 k36 c0' c1' c2' c3' c4' c5' c6' c7'; obtain ⟨z0, z1, z2⟩ := qr.c3; obtain ⟨o0, o1, o2⟩ := qr.o3) | (go_at_call 37; refine (k37 _).mono ?_; rintro e W2 ⟨rfl, h1⟩; replace qr := qr.kept h1; replace qc := qc.kept h1; replace hb := below_then hb h1; clear h1 k37 z0 z1 z2 o0 o1 o2; obtain ⟨z0, z1, z2⟩ := qr.c3; obtain ⟨o0, o1, o2⟩ := qr.o3) | (go_at_call 38; refine (k38 _).mono ?_; rintro e W3 ⟨rfl, h1⟩; obtain rfl := h1.symm; obtain ⟨c0', c1', c2', c3', c4', c5', c6', c7'⟩ := qc.cfg) | (go_at_call 39; refine (k39 _).mono ?_; rintro e W5 ⟨rfl, h1⟩; replace hb := below_then hb h1; replace qr := qr.kept h1; clear h1 k39 z0 z1 z2 o0 o1 o2 c0' c1' c2' c3' c4' c5' c6' c7'; obtain ⟨z0, z1, z2⟩ := qr.c3; obtain ⟨o0, o1, o2⟩ := qr.o3))
  obtain ⟨W6, eW, q6, only, hz⟩ := set3 qr (.int .i64 0) (.int .i64 0) nilS
  rw [eW]
  refine bodyPost_ret (v := .tuple #[.agg #[.int .i64 0, .int .i64 0, nilS], .int .i64 1]) ?_ rfl ⟨rfl, Only.below hb (Nat.le_succ _) hb.size only⟩
  obtain ⟨y0, y1, y2⟩ := q6.c3
  simp [results, Try.results18, go_sem, y0, y1, y2]

set_option maxHeartbeats 1000000 in
theorem decode_good (d h l v u x t n : Int) (s : ByteArray) (w : World) (hs : s.size ≤ 9223372036854775805) (hl : (s.size : Int) ≤ 16384) (OT BT : ByteArray) (V0 V1 : Int) (m : AdV)
    (k36 : ∀ W, Calls Try.prog 36 #[.agg #[.int .i64 d, .int .i64 h, .int .i64 l, .int .i64 v, .int .i64 u, .int .i64 x, .int .i64 t, .int .i64 n]] W fun e w' => e = .returned (.bool true) ∧ Below W.heap.size W w')
    (k37 : ∀ W, Calls Try.prog 37 #[.string s] W fun e w' => e = .returned (.tuple #[.string OT, .int .i64 0]) ∧ Below W.heap.size W w') (k38 : ∀ W, Calls Try.prog 38 #[.string OT, .string ⟨#[71, 82]⟩] W fun e w' => e = .returned (.tuple #[.string BT, .bool true]) ∧ w' = W)
    (k39 : ∀ W, Calls Try.prog 39 #[.string BT, .agg #[.int .i64 d, .int .i64 h, .int .i64 l, .int .i64 v, .int .i64 u, .int .i64 x, .int .i64 t, .int .i64 n]] W fun e w' => ∃ (L : SL) (Y : Nat → Nat → SL), e = .returned (.tuple #[.agg #[.int .i64 V0, .int .i64 V1, .slice L.a L.n L.c], .int .i64 0]) ∧ NewA W.heap.size w' L Y m ∧ Below W.heap.size W w') :
    Calls Try.prog 18 #[.string s, .agg #[.int .i64 d, .int .i64 h, .int .i64 l, .int .i64 v, .int .i64 u, .int .i64 x, .int .i64 t, .int .i64 n]] w fun e w' => ∃ (L : SL) (Y : Nat → Nat → SL), e = .returned (.tuple #[.agg #[.int .i64 V0, .int .i64 V1, .slice L.a L.n L.c], .int .i64 0]) ∧ NewA w.heap.size w' L Y m ∧ Below w.heap.size w w' := by
  have hb := below_new (below_new (Below.refl w.heap.size w) (.cells #[.int .i64 d, .int .i64 h, .int .i64 l, .int .i64 v, .int .i64 u, .int .i64 x, .int .i64 t, .int .i64 n] 26)) (.cells #[.int .i64 0, .int .i64 0, nilS] 24)
  have qc : Blk 26 ((w.alloc (.cells #[.int .i64 d, .int .i64 h, .int .i64 l, .int .i64 v, .int .i64 u, .int .i64 x, .int .i64 t, .int .i64 n] 26)).alloc (.cells #[.int .i64 0, .int .i64 0, nilS] 24)) w.heap.size #[.int .i64 d, .int .i64 h, .int .i64 l, .int .i64 v, .int .i64 u, .int .i64 x, .int .i64 t, .int .i64 n] := (Blk.new 26 w _).kept (below_new (Below.refl _ _) _)
  have qr : Blk 24 ((w.alloc (.cells #[.int .i64 d, .int .i64 h, .int .i64 l, .int .i64 v, .int .i64 u, .int .i64 x, .int .i64 t, .int .i64 n] 26)).alloc (.cells #[.int .i64 0, .int .i64 0, nilS] 24)) (w.heap.size + 1) #[.int .i64 0, .int .i64 0, nilS] := Blk.new_at 24 (w.alloc _) _ _ (by simp)
  obtain ⟨c0', c1', c2', c3', c4', c5', c6', c7'⟩ := qc.cfg
  go_enter Try.func18, Try.ntmps18
  go_wp2_with (first | (go_at_call 36; refine (k36 _).mono ?_; rintro e W1 ⟨rfl, h1⟩; replace qr := qr.kept h1; replace qc := qc.kept h1; replace hb := below_then hb h1; clear h1 k36 c0' c1' c2' c3' c4' c5' c6' c7'; obtain ⟨z0, z1, z2⟩ := qr.c3; obtain ⟨o0, o1, o2⟩ := qr.o3) | (go_at_call 37; refine (k37 _).mono ?_; rintro e W2 ⟨rfl, h1⟩; replace qr := qr.kept h1; replace qc := qc.kept h1; replace hb := below_then hb h1; clear h1 k37 z0 z1 z2 o0 o1 o2; obtain ⟨z0, z1, z2⟩ := qr.c3; obtain ⟨o0, o1, o2⟩ := qr.o3) | (go_at_call 38; refine (k38 _).mono ?_; rintro e W3 ⟨rfl, h1⟩; obtain rfl := h1.symm; obtain ⟨c0', c1', c2', c3', c4', c5', c6', c7'⟩ := qc.cfg) | (go_at_call 39; refine (k39 _).mono ?_; rintro e W5 ⟨L, Y, rfl, hN, h1⟩; have lt1 := qr.lt; replace hb := below_then hb h1; replace qr := qr.kept h1; clear h1 k39 z0 z1 z2 o0 o1 o2 c0' c1' c2' c3' c4' c5' c6' c7'; obtain ⟨z0, z1, z2⟩ := qr.c3; obtain ⟨o0, o1, o2⟩ := qr.o3))
  obtain ⟨W9, eW, q6, only, hz⟩ := set3 qr (.int .i64 V0) (.int .i64 V1) (.slice L.a L.n L.c)
  rw [eW]
  refine bodyPost_ret (v := .tuple #[.agg #[.int .i64 V0, .int .i64 V1, .slice L.a L.n L.c], .int .i64 0]) ?_ rfl ⟨L, Y, rfl, (hN.only only lt1).le (by have := hb.size; omega), Only.below hb (Nat.le_succ _) hb.size only⟩
  obtain ⟨u0, u1, u2⟩ := q6.c3
  simp [results, Try.results18, go_sem, u0, u1, u2]

theorem openT_size (s : ByteArray) : (openT s).size ≤ s.size := by
  unfold openT
  split
  · exact front_size s
  · show 0 ≤ _
    omega

theorem decode_call (d h l v u x t n : Int) (s : ByteArray) (w : World) (hs : s.size ≤ 9223372036854775805) : Calls Try.prog 18 #[.string s, .agg #[.int .i64 d, .int .i64 h, .int .i64 l, .int .i64 v, .int .i64 u, .int .i64 x, .int .i64 t, .int .i64 n]] w fun e w' => ∃ (L : SL) (Y : Nat → Nat → SL), e = .returned (.tuple #[.agg #[.int .i64 (decR d h l v u x t n s), .int .i64 (decS d h l v u x t n s), .slice L.a L.n L.c], .int .i64 (decE d h l v u x t n s)]) ∧ NewA w.heap.size w' L Y (decM d h l v u x t n s) ∧ Below w.heap.size w w' := by
  have k36 := config_call d h l v u x t n
  have k37 := fun W => open_call s W hs
  have ts := openT_size s
  have k38 := fun W => cutPrefix_call (openT s) W (by omega)
  have no : decOK d h l v u x t n s = false → (Calls Try.prog 18 #[.string s, .agg #[.int .i64 d, .int .i64 h, .int .i64 l, .int .i64 v, .int .i64 u, .int .i64 x, .int .i64 t, .int .i64 n]] w fun e w' => e = .returned (.tuple #[.agg #[.int .i64 0, .int .i64 0, nilS], .int .i64 1]) ∧ Below w.heap.size w w') → Calls Try.prog 18 #[.string s, .agg #[.int .i64 d, .int .i64 h, .int .i64 l, .int .i64 v, .int .i64 u, .int .i64 x, .int .i64 t, .int .i64 n]] w fun e w' => ∃ (L : SL) (Y : Nat → Nat → SL), e = .returned (.tuple #[.agg #[.int .i64 (decR d h l v u x t n s), .int .i64 (decS d h l v u x t n s), .slice L.a L.n L.c], .int .i64 (decE d h l v u x t n s)]) ∧ NewA w.heap.size w' L Y (decM d h l v u x t n s) ∧ Below w.heap.size w w' := fun hd hc =>
    hc.mono fun e w' hh => by
      simp only [decR, decS, decM, decE, hd, Bool.false_eq_true, if_false]
      exact ⟨⟨none, 0, 0⟩, fun _ _ => SL.nought, hh.1, NewA.none_ _ _ _, hh.2⟩
  cases okc : okB d h l v u x t n with
  | false =>
    simp only [okc] at k36
    exact no (by unfold decOK; rw [okc]; rfl) (decode_cfg d h l v u x t n s w hs k36)
  | true =>
    simp only [okc] at k36
    by_cases hl : s.size ≤ 16384
    · by_cases ho : openE s = 0
      · simp only [ho] at k37
        cases ha : grB (openT s) with
        | true =>
          have tx : txtOK s = true := decide_eq_true ⟨hl, ho, ha⟩
          simp only [ha, if_true] at k38
          have k39 := fun W => body_call d h l v u x t n (bodyS (openT s)) W okc
          cases hB : bodyOK d h l v u x t n (bodyS (openT s)) with
          | true =>
            have hd : decOK d h l v u x t n s = true := by unfold decOK; rw [okc, tx, hB]; rfl
            simp only [hB, if_true] at k39
            simp only [decR, decS, decM, decE, hd, if_true]
            exact decode_good d h l v u x t n s w hs (by omega) (openT s) (bodyS (openT s)) (rk (bodyS (openT s))) (sf (bodyS (openT s))) (bodyM d l (bodyS (openT s))) k36 k37 k38 k39
          | false =>
            have hd : decOK d h l v u x t n s = false := by unfold decOK; rw [okc, tx, hB]; rfl
            simp only [hB, Bool.false_eq_true, if_false] at k39
            exact no hd (decode_body d h l v u x t n s w hs (by omega) (openT s) (bodyS (openT s)) k36 k37 k38 k39)
        | false =>
          have hd : decOK d h l v u x t n s = false := by unfold decOK; rw [show txtOK s = false from decide_eq_false fun k => by rw [ha] at k; simp at k, okc]; rfl
          simp only [ha, Bool.false_eq_true, if_false] at k38
          exact no hd (decode_let d h l v u x t n s w hs (by omega) (openT s) (openT s) k36 k37 k38)
      · have hd : decOK d h l v u x t n s = false := by unfold decOK; rw [show txtOK s = false from decide_eq_false fun k => ho k.2.1, okc]; rfl
        exact no hd (decode_open d h l v u x t n s w hs (by omega) (openE s) (openT s) _ _ (by simp [ho]) (by simp [ho]) k36 k37 k38)
    · have hd : decOK d h l v u x t n s = false := by unfold decOK; rw [show txtOK s = false from decide_eq_false fun k => hl k.1, okc]; rfl
      exact no hd (decode_long d h l v u x t n s w hs (by omega) k36)

end Go.Proofs.Ytbmlafgolmmekaa
