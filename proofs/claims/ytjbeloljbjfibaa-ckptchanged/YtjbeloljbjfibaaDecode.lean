/- Decode of any bytes. -/
import Derived.Test.YtjbeloljbjfibaaRows
import Derived.Test.YtjbeloljbjfibaaLayer8
import Derived.Test.YtjbeloljbjfibaaConf
import Derived.Test.YtjbeloljbjfibaaBlank
import Derived.Test.YtjbeloljbjfibaaCfgRef
import Derived.Test.YtjbeloljbjfibaaSize
import Derived.Test.YtjbeloljbjfibaaSizes
import Derived.Test.YtjbeloljbjfibaaSteps
import Derived.Test.YtjbeloljbjfibaaClo54
import Derived.Test.YtjbeloljbjfibaaFill
import Derived.Test.YtjbeloljbjfibaaMods
import Derived.Test.YtjbeloljbjfibaaFills
import Derived.Test.YtjbeloljbjfibaaShape
import Derived.Test.YtjbeloljbjfibaaShapes
import Derived.Test.YtjbeloljbjfibaaCheck
import Derived.Test.YtjbeloljbjfibaaChecks
import Derived.Test.YtjbeloljbjfibaaDims
import Derived.Test.YtjbeloljbjfibaaFlat
import Derived.Test.YtjbeloljbjfibaaNumbers
import Derived.Test.YtjbeloljbjfibaaPrefix
import Derived.Test.YtjbeloljbjfibaaBody
import Derived.WalkKit
import Derived.ProofKit
import Derived.OpenShut
import Derived.Below
import Derived.WalkLawsBesides
import Derived.Deep.QuietTactic
import Derived.BigQuiet
import Derived.Deep.RegionWith
import Derived.Deep.RegionHeld3
import Derived.Deep.OwnRows
namespace Go.Proofs.Ytjbeloljbjfibaa
open Go.ChangeShapes Go.WideShapes Go.ChangeAt Go.RowKit
set_option linter.unusedVariables false


/-- Shape of a right configuration and as many weights as there are -/
theorem shape_good (d h l v u x t n : Int) (ok : okB d h l v u x t n = true) (xa : Addr) (nW cW : Nat) (ws : List Int) (w : World) (rd : Reads .i8 w (some xa) nW ws) (hc : nW ≤ cW) (hlen : (nW : Int) = szZ d l v u x) :
    Calls Try.prog 24 #[.agg #[.int .i64 d, .int .i64 h, .int .i64 l, .int .i64 v, .int .i64 u, .int .i64 x, .int .i64 t, .int .i64 n], .slice (some xa) nW cW] w fun e w' => ∃ E L N O : SL, ∃ Y U D', e = .returned (.tuple #[.agg #[.int .i64 d, .int .i64 h, .int .i64 l, .int .i64 v, .int .i64 u, .int .i64 x, .int .i64 t, .int .i64 n, .slice E.a E.n E.c, .slice L.a L.n L.c, .slice N.a N.n N.c, .slice O.a O.n O.c], .int .i64 0]) ∧ NewM w.heap.size w' E L N O Y U D' (shapeV d l v u x ws) ∧ Below w.heap.size w w' := by
  have dm := dims_of ok
  have k9 := config_call d h l v u x t n
  have k11 := size_call d h l v u x t n
  simp only [ok] at k9
  have es : sizeB d h l v u x t n = (nW : Int) := by unfold sizeB; rw [ok, hlen]; rfl
  simp only [es] at k11
  have hfit : nW = offs (cntOf d l v u x) (allT l x) := by have := dm.sz; omega
  have hxa : xa.block < w.heap.size := by
    have c := rd.cell xa rfl 0 (by have := dm.sz0; omega)
    have := World.block_lt_of_cell? _ _ c
    simpa [Addr.add] using this
  have key := shape_yes h v u x t n l.toNat (netsN x) d.toNat (d * d).toNat (x * d).toNat (u * d).toNat (v * d).toNat nW cW xa ws (by rw [← dm.ed]; exact dm.e1) (by rw [← dm.ed]; exact dm.e2) (by rw [← dm.ed]; exact dm.e3) (by rw [← dm.ed]; exact dm.e4)
    (by have := dm.b0; omega) dm.b1 dm.b2 dm.b3 dm.b4 (by have := dm.l1; omega) dm.n1 dm.n0 dm.en w (by rw [← dm.ed, ← dm.el]; exact k9) (by rw [← dm.ed, ← dm.el]; exact k11) rd hc (by have := dm.sz1; omega) (by rw [hfit]; exact Nat.le_refl _) hxa
  rw [← dm.ed, ← dm.el] at key
  exact key

theorem shape_bad (d h l v u x t n : Int) (ok : okB d h l v u x t n = false) (sa : Option Addr) (nW cW : Nat) (w : World) :
    Calls Try.prog 24 #[.agg #[.int .i64 d, .int .i64 h, .int .i64 l, .int .i64 v, .int .i64 u, .int .i64 x, .int .i64 t, .int .i64 n], .slice sa nW cW] w fun e w' => e = .returned (.tuple #[.agg #[.int .i64 0, .int .i64 0, .int .i64 0, .int .i64 0, .int .i64 0, .int .i64 0, .int .i64 0, .int .i64 0, nilS, nilS, nilS, nilS], .int .i64 20]) ∧ Below w.heap.size w w' := by
  have k9 := config_call d h l v u x t n
  simp only [ok] at k9
  exact res_no d h l v u x t n w sa nW cW k9

theorem shape_len (d h l v u x t n : Int) (ok : okB d h l v u x t n = true) (sa : Option Addr) (nW cW : Nat) (hlen : (nW : Int) ≠ szZ d l v u x) (w : World) :
    Calls Try.prog 24 #[.agg #[.int .i64 d, .int .i64 h, .int .i64 l, .int .i64 v, .int .i64 u, .int .i64 x, .int .i64 t, .int .i64 n], .slice sa nW cW] w fun e w' => e = .returned (.tuple #[.agg #[.int .i64 0, .int .i64 0, .int .i64 0, .int .i64 0, .int .i64 0, .int .i64 0, .int .i64 0, .int .i64 0, nilS, nilS, nilS, nilS], .int .i64 21]) ∧ Below w.heap.size w w' := by
  have k9 := config_call d h l v u x t n
  have k11 := size_call d h l v u x t n
  simp only [ok] at k9
  have es : sizeB d h l v u x t n = szZ d l v u x := by unfold sizeB; rw [ok]; rfl
  simp only [es] at k11
  exact shape_few d h l v u x t n w sa nW cW k9 _ k11 (by simp [hlen])

/-- what is left, and the error, behind k numbers that are read -/
def rdAt (b : ByteArray) : Nat → ByteArray × Int
  | 0 => (b, 0)
  | k + 1 => (twoS (rdAt b k).1 (rdAt b k).2, twoE (rdAt b k).1 (rdAt b k).2)
def rdNum (b : ByteArray) (k : Nat) : Int := twoV (rdAt b k).1 (rdAt b k).2
def rdOK (b : ByteArray) : Bool := okB (rdNum b 0) (rdNum b 1) (rdNum b 2) (rdNum b 3) (rdNum b 4) (rdNum b 5) (rdNum b 6) (rdNum b 7)
def rdSize (b : ByteArray) : Int := sizeB (rdNum b 0) (rdNum b 1) (rdNum b 2) (rdNum b 3) (rdNum b 4) (rdNum b 5) (rdNum b 6) (rdNum b 7)
def rdWs (b : ByteArray) : List Int := wtV (rdAt b 8).1 (rdAt b 8).2 (rdSize b)
def rdE (b : ByteArray) : Int := wtE (rdAt b 8).1 (rdAt b 8).2 (rdSize b)
def rdEnd (b : ByteArray) : Int := endV (wtS (rdAt b 8).1 (rdAt b 8).2 (rdSize b)) (rdE b)
def bodyOK (b : ByteArray) : Bool := rdOK b && decide (rdEnd b = 0)
def bodyV (b : ByteArray) : ModV := shapeV (rdNum b 0) (rdNum b 2) (rdNum b 3) (rdNum b 4) (rdNum b 5) (rdWs b)

theorem rdWs_len (b : ByteArray) (h : rdEnd b = 0) : (rdWs b).length = (rdSize b).toNat := by
  have e : rdE b = 0 := by
    unfold rdEnd endV at h
    split at h
    · omega
    · exact h
  unfold rdWs wtV
  unfold rdE at e
  rw [if_pos e, i8s_length]

theorem body_call (b : ByteArray) (w : World) : Calls Try.prog 49 #[.string b] w fun e w' => if bodyOK b = true then (∃ E L N O : SL, ∃ Y U D', e = .returned (.tuple #[.agg #[.int .i64 (rdNum b 0), .int .i64 (rdNum b 1), .int .i64 (rdNum b 2), .int .i64 (rdNum b 3), .int .i64 (rdNum b 4), .int .i64 (rdNum b 5), .int .i64 (rdNum b 6), .int .i64 (rdNum b 7), .slice E.a E.n E.c, .slice L.a L.n L.c, .slice N.a N.n N.c, .slice O.a O.n O.c], .int .i64 0]) ∧ NewM w.heap.size w' E L N O Y U D' (bodyV b) ∧ Below w.heap.size w w')
    else (e = .returned (.tuple #[.agg #[.int .i64 0, .int .i64 0, .int .i64 0, .int .i64 0, .int .i64 0, .int .i64 0, .int .i64 0, .int .i64 0, nilS, nilS, nilS, nilS], .int .i64 1]) ∧ Below w.heap.size w w') := by
  have c : ∀ k W, Rd 93 W (w.heap.size + 1 + 1) (rdAt b k).1 (rdAt b k).2 → Calls Try.prog 62 #[.pointer (some ⟨w.heap.size + 1 + 1, 0, none⟩)] W fun r w' => r = .returned (.int .i64 (rdNum b k)) ∧ Rd 93 w' (w.heap.size + 1 + 1) (rdAt b (k + 1)).1 (rdAt b (k + 1)).2 ∧ Only (w.heap.size + 1 + 1) W w' := fun k W h => two_reader h
  have k11 := size_call (rdNum b 0) (rdNum b 1) (rdNum b 2) (rdNum b 3) (rdNum b 4) (rdNum b 5) (rdNum b 6) (rdNum b 7)
  have k63 : ∀ W, Rd 93 W (w.heap.size + 1 + 1) (rdAt b 8).1 (rdAt b 8).2 → Calls Try.prog 63 #[.pointer (some ⟨w.heap.size + 1 + 1, 0, none⟩), .int .i64 (rdSize b)] W fun r w' => (∃ a m c, r = .returned (.slice a m c) ∧ Reads .i8 w' a m (rdWs b) ∧ m ≤ c ∧ ∃ x, a = some x) ∧ Rd 93 w' (w.heap.size + 1 + 1) (wtS (rdAt b 8).1 (rdAt b 8).2 (rdSize b)) (rdE b) ∧ Only (w.heap.size + 1 + 1) W w' := fun W h =>
    (weights_reader h (rdSize b)).mono fun r w' ⟨⟨a, m, c, h1, h2, _, h3, h4⟩, h5, h6⟩ => ⟨⟨a, m, c, h1, h2, h3, h4⟩, h5, h6⟩
  have k64 : ∀ W, Rd 93 W (w.heap.size + 1 + 1) (wtS (rdAt b 8).1 (rdAt b 8).2 (rdSize b)) (rdE b) → Calls Try.prog 64 #[.pointer (some ⟨w.heap.size + 1 + 1, 0, none⟩)] W fun r w' => r = .returned (.int .i64 (rdEnd b)) ∧ w' = W := fun W h => end_reader h
  by_cases he : rdEnd b = 0
  · simp only [he] at k64
    cases ok : rdOK b with
    | true =>
      have hB : bodyOK b = true := by unfold bodyOK; rw [ok]; simp [he]
      simp only [hB, if_true]
      refine body_good _ _ _ _ _ _ _ _ _ _ _ _ _ _ _ _ _ _ _ _ _ _ _ _ _ _ _ _ _ w (c 0) (c 1) (c 2) (c 3) (c 4) (c 5) (c 6) (c 7) k11 k63 k64 (bodyV b) (fun W xa wn wc rd hcap => shape_good _ _ _ _ _ _ _ _ ok xa wn wc (rdWs b) W rd hcap ?_)
      have h1 := rdWs_len b he
      have h2 := rd.len
      have dm := dims_of ok
      have h3 : rdSize b = szZ (rdNum b 0) (rdNum b 2) (rdNum b 3) (rdNum b 4) (rdNum b 5) := by unfold rdSize sizeB; rw [show okB (rdNum b 0) (rdNum b 1) (rdNum b 2) (rdNum b 3) (rdNum b 4) (rdNum b 5) (rdNum b 6) (rdNum b 7) = true from ok]; rfl
      have := dm.sz0
      have := dm.sz
      omega
    | false =>
      have hB : bodyOK b = false := by unfold bodyOK; rw [ok]; rfl
      simp only [hB, Bool.false_eq_true, if_false]
      exact body_bad _ _ _ _ _ _ _ _ _ _ _ _ _ _ _ _ _ _ _ _ _ _ _ _ _ _ _ _ _ w (c 0) (c 1) (c 2) (c 3) (c 4) (c 5) (c 6) (c 7) k11 k63 k64 20 (by decide) (fun W xa wn wc rd hcap => shape_bad _ _ _ _ _ _ _ _ ok (some xa) wn wc W)
  · have hB : bodyOK b = false := by unfold bodyOK; simp [he]
    simp only [hB, Bool.false_eq_true, if_false]
    exact body_end _ _ _ _ _ _ _ _ _ _ _ _ _ _ _ _ _ _ _ _ _ _ _ _ _ _ _ _ _ _ w (c 0) (c 1) (c 2) (c 3) (c 4) (c 5) (c 6) (c 7) k11 k63 k64 (by simp [he])

/-- are these the bytes of a right model, and if so, of which -/
def txtOK (s : ByteArray) : Bool := decide (s.size ≤ 16384 ∧ openE s = 0 ∧ avB (openT s) = true)
def decOK (s : ByteArray) : Bool := txtOK s && bodyOK (bodyS (openT s))
def decC (s : ByteArray) (k : Nat) : Int := if decOK s then rdNum (bodyS (openT s)) k else 0
def decM (s : ByteArray) : ModV := if decOK s then bodyV (bodyS (openT s)) else noV
def decE (s : ByteArray) : Int := if decOK s then 0 else 1

theorem decode_walk (s : ByteArray) (w : World) (OE : Int) (OT BT : ByteArray) (AB : Bool) (hs : s.size ≤ 9223372036854775805) (hl : (s.size : Int) ≤ 16384)
    (k47 : ∀ W, Calls Try.prog 47 #[.string s] W fun e w' => e = .returned (.tuple #[.string OT, .int .i64 OE]) ∧ Below W.heap.size W w')
    (k48 : ∀ W, Calls Try.prog 48 #[.string OT, .string ⟨#[65, 86]⟩] W fun e w' => e = .returned (.tuple #[.string BT, .bool AB]) ∧ w' = W) (hno : (OE == 0) = false ∨ AB = false) :
    Calls Try.prog 22 #[.string s] w fun e w' => e = .returned (.tuple #[.agg #[.int .i64 0, .int .i64 0, .int .i64 0, .int .i64 0, .int .i64 0, .int .i64 0, .int .i64 0, .int .i64 0, nilS, nilS, nilS, nilS], .int .i64 1]) ∧ Below w.heap.size w w' := by
  have hb := below_new (Below.refl w.heap.size w) (.cells #[.int .i64 0, .int .i64 0, .int .i64 0, .int .i64 0, .int .i64 0, .int .i64 0, .int .i64 0, .int .i64 0, nilS, nilS, nilS, nilS] 29)
  have q := Blk.new 29 w #[.int .i64 0, .int .i64 0, .int .i64 0, .int .i64 0, .int .i64 0, .int .i64 0, .int .i64 0, .int .i64 0, nilS, nilS, nilS, nilS]
  have HQ := hidden_ q
  clear q
  have fin : ∀ W, Below w.heap.size w W → Blk 29 W w.heap.size #[.int .i64 0, .int .i64 0, .int .i64 0, .int .i64 0, .int .i64 0, .int .i64 0, .int .i64 0, .int .i64 0, nilS, nilS, nilS, nilS] → ∃ W6, ((((((((((((W.setCell ⟨w.heap.size, 0, none⟩ (.int .i64 0)).setCell ⟨w.heap.size, 1, none⟩ (.int .i64 0)).setCell ⟨w.heap.size, 2, none⟩ (.int .i64 0)).setCell ⟨w.heap.size, 3, none⟩ (.int .i64 0)).setCell ⟨w.heap.size, 4, none⟩ (.int .i64 0)).setCell ⟨w.heap.size, 5, none⟩ (.int .i64 0)).setCell ⟨w.heap.size, 6, none⟩ (.int .i64 0)).setCell ⟨w.heap.size, 7, none⟩ (.int .i64 0)).setCell ⟨w.heap.size, 8, none⟩ nilS).setCell ⟨w.heap.size, 9, none⟩ nilS).setCell ⟨w.heap.size, 10, none⟩ nilS).setCell ⟨w.heap.size, 11, none⟩ nilS) = W6 ∧ Blk 29 W6 w.heap.size #[.int .i64 0, .int .i64 0, .int .i64 0, .int .i64 0, .int .i64 0, .int .i64 0, .int .i64 0, .int .i64 0, nilS, nilS, nilS, nilS] ∧ Below w.heap.size w W6 := fun W hb q => by
    obtain ⟨W6, eW, q6, only, hz⟩ := set12 q (.int .i64 0) (.int .i64 0) (.int .i64 0) (.int .i64 0) (.int .i64 0) (.int .i64 0) (.int .i64 0) (.int .i64 0) nilS nilS nilS nilS
    exact ⟨W6, eW, q6, Only.below hb (Nat.le_refl _) hb.size only⟩
  by_cases hE : OE = 0
  · obtain rfl : AB = false := by rcases hno with h | h; · rw [hE] at h; simp at h
                                  exact h
    subst hE
    clear hno
    go_enter Try.func22, Try.ntmps22
    go_wp2_with (first
      | (go_at_call 47; refine (k47 _).mono ?_; rintro e W1 ⟨rfl, h1⟩; have q := HQ.out.kept h1; replace hb := below_then hb h1; clear h1)
      | (go_at_call 48; refine (k48 _).mono ?_; rintro e W2 ⟨rfl, h2⟩; obtain rfl := h2.symm; obtain ⟨z0, z1, z2, z3, z4, z5, z6, z7, z8, z9, z10, z11⟩ := q.c12; obtain ⟨o0, o1, o2, o3, o4, o5, o6, o7, o8, o9, o10, o11⟩ := q.o12))
    obtain ⟨W6, eW, q6, hb6⟩ := fin _ hb q
    rw [eW]
    refine bodyPost_ret (v := .tuple #[.agg #[.int .i64 0, .int .i64 0, .int .i64 0, .int .i64 0, .int .i64 0, .int .i64 0, .int .i64 0, .int .i64 0, nilS, nilS, nilS, nilS], .int .i64 1]) ?_ rfl ⟨rfl, hb6⟩
    obtain ⟨y0, y1, y2, y3, y4, y5, y6, y7, y8, y9, y10, y11⟩ := q6.c12
    simp [results, Try.results22, go_sem, y0, y1, y2, y3, y4, y5, y6, y7, y8, y9, y10, y11]
  · have hE' : (OE == 0) = false := by simp [hE]
    have hE2 : (OE != 0) = true := by simp [hE]
    clear hno hE
    go_enter Try.func22, Try.ntmps22
    go_wp2_with (first
      | (go_at_call 47; refine (k47 _).mono ?_; rintro e W1 ⟨rfl, h1⟩; have q := HQ.out.kept h1; replace hb := below_then hb h1; clear h1)
      | (go_at_call 48; refine (k48 _).mono ?_; rintro e W2 ⟨rfl, h2⟩; obtain rfl := h2.symm; obtain ⟨z0, z1, z2, z3, z4, z5, z6, z7, z8, z9, z10, z11⟩ := q.c12; obtain ⟨o0, o1, o2, o3, o4, o5, o6, o7, o8, o9, o10, o11⟩ := q.o12))
    obtain ⟨W6, eW, q6, hb6⟩ := fin _ hb q
    rw [eW]
    refine bodyPost_ret (v := .tuple #[.agg #[.int .i64 0, .int .i64 0, .int .i64 0, .int .i64 0, .int .i64 0, .int .i64 0, .int .i64 0, .int .i64 0, nilS, nilS, nilS, nilS], .int .i64 1]) ?_ rfl ⟨rfl, hb6⟩
    obtain ⟨y0, y1, y2, y3, y4, y5, y6, y7, y8, y9, y10, y11⟩ := q6.c12
    simp [results, Try.results22, go_sem, y0, y1, y2, y3, y4, y5, y6, y7, y8, y9, y10, y11]

theorem decode_long (s : ByteArray) (w : World) (hs : s.size ≤ 9223372036854775805) (hl : (16384 : Int) < (s.size : Int)) :
    Calls Try.prog 22 #[.string s] w fun e w' => e = .returned (.tuple #[.agg #[.int .i64 0, .int .i64 0, .int .i64 0, .int .i64 0, .int .i64 0, .int .i64 0, .int .i64 0, .int .i64 0, nilS, nilS, nilS, nilS], .int .i64 1]) ∧ Below w.heap.size w w' := by
  have hb := below_new (Below.refl w.heap.size w) (.cells #[.int .i64 0, .int .i64 0, .int .i64 0, .int .i64 0, .int .i64 0, .int .i64 0, .int .i64 0, .int .i64 0, nilS, nilS, nilS, nilS] 29)
  go_enter Try.func22, Try.ntmps22
  go_wp2
  refine bodyPost_ret (v := .tuple #[.agg #[.int .i64 0, .int .i64 0, .int .i64 0, .int .i64 0, .int .i64 0, .int .i64 0, .int .i64 0, .int .i64 0, nilS, nilS, nilS, nilS], .int .i64 1]) ?_ rfl ⟨rfl, hb⟩
  simp [results, Try.results22, go_sem]

set_option maxHeartbeats 1000000 in
theorem decode_good (s : ByteArray) (w : World) (OT BT : ByteArray) (C0 C1 C2 C3 C4 C5 C6 C7 : Int) (m : ModV) (hs : s.size ≤ 9223372036854775805) (hl : (s.size : Int) ≤ 16384)
    (k47 : ∀ W, Calls Try.prog 47 #[.string s] W fun e w' => e = .returned (.tuple #[.string OT, .int .i64 0]) ∧ Below W.heap.size W w')
    (k48 : ∀ W, Calls Try.prog 48 #[.string OT, .string ⟨#[65, 86]⟩] W fun e w' => e = .returned (.tuple #[.string BT, .bool true]) ∧ w' = W)
    (k49 : ∀ W, Calls Try.prog 49 #[.string BT] W fun e w' => ∃ E L N O : SL, ∃ Y U D', e = .returned (.tuple #[.agg #[.int .i64 C0, .int .i64 C1, .int .i64 C2, .int .i64 C3, .int .i64 C4, .int .i64 C5, .int .i64 C6, .int .i64 C7, .slice E.a E.n E.c, .slice L.a L.n L.c, .slice N.a N.n N.c, .slice O.a O.n O.c], .int .i64 0]) ∧ NewM W.heap.size w' E L N O Y U D' m ∧ Below W.heap.size W w') :
    Calls Try.prog 22 #[.string s] w fun e w' => ∃ E L N O : SL, ∃ Y U D', e = .returned (.tuple #[.agg #[.int .i64 C0, .int .i64 C1, .int .i64 C2, .int .i64 C3, .int .i64 C4, .int .i64 C5, .int .i64 C6, .int .i64 C7, .slice E.a E.n E.c, .slice L.a L.n L.c, .slice N.a N.n N.c, .slice O.a O.n O.c], .int .i64 0]) ∧ NewM w.heap.size w' E L N O Y U D' m ∧ Below w.heap.size w w' := by
  have hb := below_new (Below.refl w.heap.size w) (.cells #[.int .i64 0, .int .i64 0, .int .i64 0, .int .i64 0, .int .i64 0, .int .i64 0, .int .i64 0, .int .i64 0, nilS, nilS, nilS, nilS] 29)
  have q := Blk.new 29 w #[.int .i64 0, .int .i64 0, .int .i64 0, .int .i64 0, .int .i64 0, .int .i64 0, .int .i64 0, .int .i64 0, nilS, nilS, nilS, nilS]
  have HQ := hidden_ q
  clear q
  go_enter Try.func22, Try.ntmps22
  go_wp2_with (first
    | (go_at_call 47; refine (k47 _).mono ?_; rintro e W1 ⟨rfl, h1⟩; have q := HQ.out.kept h1; replace hb := below_then hb h1; clear h1)
    | (go_at_call 48; refine (k48 _).mono ?_; rintro e W2 ⟨rfl, h2⟩; obtain rfl := h2.symm)
    | (go_at_call 49; refine (k49 _).mono ?_; rintro e W5 ⟨E, L, N, O, Y, U, D', rfl, hM, h5⟩; have lt3 := q.lt; replace hb := below_then hb h5; replace q := q.kept h5; clear h5; obtain ⟨z0, z1, z2, z3, z4, z5, z6, z7, z8, z9, z10, z11⟩ := q.c12; obtain ⟨o0, o1, o2, o3, o4, o5, o6, o7, o8, o9, o10, o11⟩ := q.o12))
  obtain ⟨W6, eW, q6, only, hz⟩ := set12 q (.int .i64 C0) (.int .i64 C1) (.int .i64 C2) (.int .i64 C3) (.int .i64 C4) (.int .i64 C5) (.int .i64 C6) (.int .i64 C7) (.slice E.a E.n E.c) (.slice L.a L.n L.c) (.slice N.a N.n N.c) (.slice O.a O.n O.c)
  rw [eW]
  refine bodyPost_ret (v := .tuple #[.agg #[.int .i64 C0, .int .i64 C1, .int .i64 C2, .int .i64 C3, .int .i64 C4, .int .i64 C5, .int .i64 C6, .int .i64 C7, .slice E.a E.n E.c, .slice L.a L.n L.c, .slice N.a N.n N.c, .slice O.a O.n O.c], .int .i64 0]) ?_ rfl ⟨E, L, N, O, Y, U, D', rfl, (hM.only only lt3).le (Nat.le_of_lt lt3), Only.below hb (Nat.le_refl _) hb.size only⟩
  obtain ⟨y0, y1, y2, y3, y4, y5, y6, y7, y8, y9, y10, y11⟩ := q6.c12
  simp [results, Try.results22, go_sem, y0, y1, y2, y3, y4, y5, y6, y7, y8, y9, y10, y11]

set_option maxHeartbeats 1000000 in
theorem decode_body (s : ByteArray) (w : World) (OT BT : ByteArray) (hs : s.size ≤ 9223372036854775805) (hl : (s.size : Int) ≤ 16384)
    (k47 : ∀ W, Calls Try.prog 47 #[.string s] W fun e w' => e = .returned (.tuple #[.string OT, .int .i64 0]) ∧ Below W.heap.size W w')
    (k48 : ∀ W, Calls Try.prog 48 #[.string OT, .string ⟨#[65, 86]⟩] W fun e w' => e = .returned (.tuple #[.string BT, .bool true]) ∧ w' = W)
    (k49 : ∀ W, Calls Try.prog 49 #[.string BT] W fun e w' => e = .returned (.tuple #[.agg #[.int .i64 0, .int .i64 0, .int .i64 0, .int .i64 0, .int .i64 0, .int .i64 0, .int .i64 0, .int .i64 0, nilS, nilS, nilS, nilS], .int .i64 1]) ∧ Below W.heap.size W w') :
    Calls Try.prog 22 #[.string s] w fun e w' => e = .returned (.tuple #[.agg #[.int .i64 0, .int .i64 0, .int .i64 0, .int .i64 0, .int .i64 0, .int .i64 0, .int .i64 0, .int .i64 0, nilS, nilS, nilS, nilS], .int .i64 1]) ∧ Below w.heap.size w w' := by
  have hb := below_new (Below.refl w.heap.size w) (.cells #[.int .i64 0, .int .i64 0, .int .i64 0, .int .i64 0, .int .i64 0, .int .i64 0, .int .i64 0, .int .i64 0, nilS, nilS, nilS, nilS] 29)
  have q := Blk.new 29 w #[.int .i64 0, .int .i64 0, .int .i64 0, .int .i64 0, .int .i64 0, .int .i64 0, .int .i64 0, .int .i64 0, nilS, nilS, nilS, nilS]
  have HQ := hidden_ q
  clear q
  go_enter Try.func22, Try.ntmps22
  go_wp2_with (first
    | (go_at_call 47; refine (k47 _).mono ?_; rintro e W1 ⟨rfl, h1⟩; have q := HQ.out.kept h1; replace hb := below_then hb h1; clear h1)
    | (go_at_call 48; refine (k48 _).mono ?_; rintro e W2 ⟨rfl, h2⟩; obtain rfl := h2.symm)
    | (go_at_call 49; refine (k49 _).mono ?_; rintro e W5 ⟨rfl, h5⟩; replace hb := below_then hb h5; replace q := q.kept h5; clear h5; obtain ⟨z0, z1, z2, z3, z4, z5, z6, z7, z8, z9, z10, z11⟩ := q.c12; obtain ⟨o0, o1, o2, o3, o4, o5, o6, o7, o8, o9, o10, o11⟩ := q.o12))
  obtain ⟨W6, eW, q6, only, hz⟩ := set12 q (.int .i64 0) (.int .i64 0) (.int .i64 0) (.int .i64 0) (.int .i64 0) (.int .i64 0) (.int .i64 0) (.int .i64 0) nilS nilS nilS nilS
  rw [eW]
  refine bodyPost_ret (v := .tuple #[.agg #[.int .i64 0, .int .i64 0, .int .i64 0, .int .i64 0, .int .i64 0, .int .i64 0, .int .i64 0, .int .i64 0, nilS, nilS, nilS, nilS], .int .i64 1]) ?_ rfl ⟨rfl, Only.below hb (Nat.le_refl _) hb.size only⟩
  obtain ⟨y0, y1, y2, y3, y4, y5, y6, y7, y8, y9, y10, y11⟩ := q6.c12
  simp [results, Try.results22, go_sem, y0, y1, y2, y3, y4, y5, y6, y7, y8, y9, y10, y11]

theorem decode_call (s : ByteArray) (w : World) (hs : s.size ≤ 9223372036854775805) : Calls Try.prog 22 #[.string s] w fun e w' => ∃ E L N O : SL, ∃ Y U D', e = .returned (.tuple #[.agg #[.int .i64 (decC s 0), .int .i64 (decC s 1), .int .i64 (decC s 2), .int .i64 (decC s 3), .int .i64 (decC s 4), .int .i64 (decC s 5), .int .i64 (decC s 6), .int .i64 (decC s 7), .slice E.a E.n E.c, .slice L.a L.n L.c, .slice N.a N.n N.c, .slice O.a O.n O.c], .int .i64 (decE s)]) ∧ NewM w.heap.size w' E L N O Y U D' (decM s) ∧ Below w.heap.size w w' := by
  have k47 := fun W => open_call s W hs
  have ts : (openT s).size ≤ 9223372036854775807 := by
    unfold openT
    split
    · have := front_size s; omega
    · show 0 ≤ _; omega
  have k48 := fun W => cutPrefix_call (openT s) W ts
  have k49 := body_call (bodyS (openT s))
  have no : decOK s = false → (Calls Try.prog 22 #[.string s] w fun e w' => e = .returned (.tuple #[.agg #[.int .i64 0, .int .i64 0, .int .i64 0, .int .i64 0, .int .i64 0, .int .i64 0, .int .i64 0, .int .i64 0, nilS, nilS, nilS, nilS], .int .i64 1]) ∧ Below w.heap.size w w') → Calls Try.prog 22 #[.string s] w fun e w' => ∃ E L N O : SL, ∃ Y U D', e = .returned (.tuple #[.agg #[.int .i64 (decC s 0), .int .i64 (decC s 1), .int .i64 (decC s 2), .int .i64 (decC s 3), .int .i64 (decC s 4), .int .i64 (decC s 5), .int .i64 (decC s 6), .int .i64 (decC s 7), .slice E.a E.n E.c, .slice L.a L.n L.c, .slice N.a N.n N.c, .slice O.a O.n O.c], .int .i64 (decE s)]) ∧ NewM w.heap.size w' E L N O Y U D' (decM s) ∧ Below w.heap.size w w' := fun hd hc =>
    hc.mono fun e w' hh => by
      have e1 : ∀ k, decC s k = 0 := fun k => by unfold decC; rw [hd]; rfl
      have e2 : decM s = noV := by unfold decM; rw [hd]; rfl
      have e3 : decE s = 1 := by unfold decE; rw [hd]; rfl
      simp only [e1, e2, e3]
      exact ⟨⟨none, 0, 0⟩, ⟨none, 0, 0⟩, ⟨none, 0, 0⟩, ⟨none, 0, 0⟩, fun _ _ => SL.nought, fun _ _ => SL.nought, fun _ _ => SL.nought, hh.1, NewM.none_ _ _ _ _ _, hh.2⟩
  by_cases hl : s.size ≤ 16384
  · by_cases ho : openE s = 0
    · cases ha : avB (openT s) with
      | true =>
        have tx : txtOK s = true := decide_eq_true ⟨hl, ho, ha⟩
        simp only [ho] at k47
        simp only [ha, if_true] at k48
        cases hb : bodyOK (bodyS (openT s)) with
        | true =>
          have hd : decOK s = true := by unfold decOK; rw [tx, hb]; rfl
          simp only [hb, if_true] at k49
          have e1 : ∀ k, decC s k = rdNum (bodyS (openT s)) k := fun k => by unfold decC; rw [hd]; rfl
          have e2 : decM s = bodyV (bodyS (openT s)) := by unfold decM; rw [hd]; rfl
          have e3 : decE s = 0 := by unfold decE; rw [hd]; rfl
          simp only [e1, e2, e3]
          exact decode_good s w _ _ _ _ _ _ _ _ _ _ _ hs (by omega) k47 k48 k49
        | false =>
          have hd : decOK s = false := by unfold decOK; rw [tx, hb]; rfl
          simp only [hb, Bool.false_eq_true, if_false] at k49
          exact no hd (decode_body s w _ _ hs (by omega) k47 k48 k49)
      | false =>
        have hd : decOK s = false := by unfold decOK; rw [show txtOK s = false from decide_eq_false fun k => by rw [ha] at k; simp at k]; rfl
        simp only [ha, Bool.false_eq_true, if_false] at k48
        exact no hd (decode_walk s w _ _ _ _ hs (by omega) k47 k48 (.inr rfl))
    · have hd : decOK s = false := by unfold decOK; rw [show txtOK s = false from decide_eq_false fun k => ho k.2.1]; rfl
      exact no hd (decode_walk s w _ _ _ _ hs (by omega) k47 k48 (.inl (by simp [ho])))
  · have hd : decOK s = false := by unfold decOK; rw [show txtOK s = false from decide_eq_false fun k => hl k.1]; rfl
    exact no hd (decode_long s w hs (by omega))

end Go.Proofs.Ytjbeloljbjfibaa
