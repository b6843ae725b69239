/- CkptBack, of any model that lies in memory and any text. -/
import Derived.Test.YtjbeloljbjfibaaRows
import Derived.Test.YtjbeloljbjfibaaLayer8
import Derived.Test.YtjbeloljbjfibaaConf
import Derived.Test.YtjbeloljbjfibaaBlank
import Derived.Test.YtjbeloljbjfibaaCfgRef
import Derived.Test.YtjbeloljbjfibaaSize
import Derived.Test.YtjbeloljbjfibaaSizes
import Derived.Test.YtjbeloljbjfibaaSteps
import Derived.Test.YtjbeloljbjfibaaClo54
import Derived.Test.YtjbeloljbjfibaaFill
import Derived.Test.YtjbeloljbjfibaaMods
import Derived.Test.YtjbeloljbjfibaaFills
import Derived.Test.YtjbeloljbjfibaaShape
import Derived.Test.YtjbeloljbjfibaaShapes
import Derived.Test.YtjbeloljbjfibaaCheck
import Derived.Test.YtjbeloljbjfibaaChecks
import Derived.Test.YtjbeloljbjfibaaDims
import Derived.Test.YtjbeloljbjfibaaFlat
import Derived.Test.YtjbeloljbjfibaaNumbers
import Derived.Test.YtjbeloljbjfibaaPrefix
import Derived.Test.YtjbeloljbjfibaaBody
import Derived.Test.YtjbeloljbjfibaaDecode
import Derived.WalkKit
import Derived.ProofKit
import Derived.OpenShut
import Derived.Below
import Derived.WalkLawsBesides
import Derived.Deep.QuietTactic
import Derived.BigQuiet
import Derived.Deep.RegionWith
import Derived.Deep.RegionHeld3
import Derived.Deep.OwnRows
import Derived.Deep.Slices
import Derived.Test.YtjbeloljbjfibaaTrips
import Derived.Test.YtjbeloljbjfibaaInv
import Derived.Test.YtjbeloljbjfibaaBuild
import Derived.Test.YtjbeloljbjfibaaTypedC
import Derived.Test.YtjbeloljbjfibaaEqWorks
import Derived.Test.YtjbeloljbjfibaaCuts
import Derived.Test.YtjbeloljbjfibaaSameLM
import Derived.Test.YtjbeloljbjfibaaOwns
import Derived.Test.YtjbeloljbjfibaaJoin
import Derived.Test.YtjbeloljbjfibaaSeeds
namespace Go.Proofs.Ytjbeloljbjfibaa
open Go.ChangeShapes Go.WideShapes Go.ChangeAt Go.RowKit
set_option linter.unusedVariables false

set_option maxHeartbeats 8000000 in
set_option maxRecDepth 20000 in
theorem back_walk (d h l v u x t n : Int) (E N O : SL) (La : Option Addr) (ml Lc : Nat) (L : SL) (Y U D : Nat → Nat → SL) (m : ModV) (s : ByteArray) (w : World) (hM : ModAt w E L N O Y U D m) (hF : m.ln ≤ 20 → Fits m) (e1 : L = ⟨La, ml, Lc⟩) (hs : s.size ≤ 9223372036854775807) (hmx : m.ln ≤ 9223372036854775807) :
    Calls Try.prog 6 #[.agg #[.int .i64 d, .int .i64 h, .int .i64 l, .int .i64 v, .int .i64 u, .int .i64 x, .int .i64 t, .int .i64 n, .slice E.a E.n E.c, .slice La ml Lc, .slice N.a N.n N.c, .slice O.a O.n O.c], .string s] w fun e w' => e = .returned (.bool true) ∧ Below w.heap.size w w' := by
  have k26 := works_call
  have hml : ml = m.ln := by have := hM.len; rw [e1] at this; exact this
  have hb := below_new (Below.refl w.heap.size w) (.cells #[.int .i64 d, .int .i64 h, .int .i64 l, .int .i64 v, .int .i64 u, .int .i64 x, .int .i64 t, .int .i64 n, .slice E.a E.n E.c, .slice La ml Lc, .slice N.a N.n N.c, .slice O.a O.n O.c] 29)
  have qb := Blk.new 29 w #[.int .i64 d, .int .i64 h, .int .i64 l, .int .i64 v, .int .i64 u, .int .i64 x, .int .i64 t, .int .i64 n, .slice E.a E.n E.c, .slice La ml Lc, .slice N.a N.n N.c, .slice O.a O.n O.c]
  have hml' : ml ≤ 9223372036854775807 := by omega
  by_cases c1 : 20 < ml
  · have c1' : (20 : Int) < (ml : Int) := by omega
    clear hmx hml hM hF e1
    go_enter Try.func6, Try.ntmps6
    go_wp2_with (first
      | (go_at_call 26; refine (k26 _).mono ?_; rintro e W1 ⟨rfl, h1⟩; replace qb := qb.kept h1; replace hb := below_then hb h1; clear h1 k26; obtain ⟨a0, a1, a2, a3, a4, a5, a6, a7, a8, a9, a10, a11⟩ := qb.c12))
    go_ret
    exact ⟨rfl, hb⟩
  have c1' : ¬ (20 : Int) < (ml : Int) := by omega
  have c1d : decide ((20 : Int) < (ml : Int)) = false := by simp; omega
  by_cases c2 : 40000 < s.size
  · have c2' : (40000 : Int) < (s.size : Int) := by omega
    clear hmx hml hM hF e1
    go_enter Try.func6, Try.ntmps6
    go_wp2_with (first
      | (go_at_call 26; refine (k26 _).mono ?_; rintro e W1 ⟨rfl, h1⟩; replace qb := qb.kept h1; replace hb := below_then hb h1; clear h1 k26; obtain ⟨a0, a1, a2, a3, a4, a5, a6, a7, a8, a9, a10, a11⟩ := qb.c12))
    go_ret
    exact ⟨rfl, hb⟩
  have c2' : ¬ (40000 : Int) < (s.size : Int) := by omega
  have c2d : decide ((40000 : Int) < (s.size : Int)) = false := by simp; omega
  have hFm := hF (by omega)
  subst e1
  have k13 := fun (W : World) (hw : Below w.heap.size w W) => own_call d h l v u x t n E ⟨La, ml, Lc⟩ N O Y U D m W (hM.below hw) hFm
  have k14 := fun (E1 L1 N1 O1 : SL) (Y1 U1 D1 : Nat → Nat → SL) (W : World) (m1 : ModAt W E1 L1 N1 O1 Y1 U1 D1 m) => encode_call d h l v u x t n E1 L1 N1 O1 Y1 U1 D1 m W m1
  have k21 := fun (E2 L2 N2 O2 : SL) (Y2 U2 D2 : Nat → Nat → SL) (W : World) (hw : Below w.heap.size w W) (m2 : ModAt W E2 L2 N2 O2 Y2 U2 D2 m) => sameM_call d h l v u x t n E2 L2 N2 O2 E ⟨La, ml, Lc⟩ N O Y2 U2 D2 Y U D m W m2 (hM.below hw) (by omega) (fun i hi => ⟨by have := hFm.un i hi; omega, by have := hFm.dn i hi; omega⟩)
  have dn := fun (hd : decOK s = false) => decode_no s (by omega) hd
  have dy := fun (W : World) => decode_call s W (by omega)
  have back := @dec_back s
  have zero : Try.prog.info? 23 = Try.prog.info? 23 := rfl
  have ceq := cfg_same 0 0 0 0 0 0 0 0
  by_cases hz : checkB d h l v u x t n m = 0
  · have ag := flat_shape hz
    obtain ⟨ok, hln, hun, hlen⟩ := checked hz
    have hfl := flat_length hz
    have de := dec_enc ok (flatV x l m) hfl (flat_wf hM hz)
    have dsz := dims_of ok
    have es := enc_size d h l v u x t n (flatV x l m)
    have eV : encV d h l v u x t n m = encS d h l v u x t n (flatV x l m) := by unfold encV; rw [if_pos hz]
    simp only [hz, eV] at k14
    obtain ⟨TT, eT⟩ : ∃ TT, encS d h l v u x t n (flatV x l m) = TT := ⟨_, rfl⟩
    rw [eT] at de es
    simp only [eT] at k14
    obtain ⟨d0, d1, d2, d3, d4, d5, d6, d7, d8, d9⟩ := de
    have kT : ∀ W, Calls Try.prog 22 #[.string TT] W fun e w' => ∃ E L N O : SL, ∃ Y U D', e = .returned (.tuple #[.agg #[.int .i64 d, .int .i64 h, .int .i64 l, .int .i64 v, .int .i64 u, .int .i64 x, .int .i64 t, .int .i64 n, .slice E.a E.n E.c, .slice L.a L.n L.c, .slice N.a N.n N.c, .slice O.a O.n O.c], .int .i64 0]) ∧ NewM W.heap.size w' E L N O Y U D' (shapeV d l v u x (flatV x l m)) ∧ Below W.heap.size W w' := fun W => by
      have := decode_call TT W (by have := dsz.sz1; omega)
      rw [d1, d2, d3, d4, d5, d6, d7, d8, d9, show decE TT = 0 by unfold decE; rw [d0]; rfl] at this
      exact this
    have AG := hidden_ ag
    clear d0 d1 d2 d3 d4 d5 d6 d7 d8 d9 es eT eV hz ag ok hln hun hlen hfl dsz hFm hF hM hmx hml
    cases hd : decOK s with
    | false =>
      have kS := dn hd
      clear dn dy back hd
      go_enter Try.func6, Try.ntmps6
      go_wp2_with (first
        | (go_at_call 26; refine (k26 _).mono ?_; rintro e W1 ⟨rfl, h1⟩; replace qb := qb.kept h1; replace hb := below_then hb h1; clear h1 k26; obtain ⟨a0, a1, a2, a3, a4, a5, a6, a7, a8, a9, a10, a11⟩ := qb.c12)
        | (go_at_call 13; refine (k13 _ hb).mono ?_; rintro e W2 ⟨E1, L1, N1, O1, Y1, U1, D1, rfl, hN1, h2⟩; replace qb := qb.kept h2; replace hb := below_then hb h2; have m1 := hN1.at_; clear h2 hN1 k13 a0 a1 a2 a3 a4 a5 a6 a7 a8 a9 a10 a11)
        | (go_at_call 14; refine (k14 E1 L1 N1 O1 Y1 U1 D1 _ m1).mono ?_; rintro e W3 ⟨rfl, h3⟩; replace qb := qb.kept h3; replace hb := below_then hb h3; clear h3 m1 k14)
        | (go_at_call 22; refine (kT _).mono ?_; rintro e W4 ⟨E2, L2, N2, O2, Y2, U2, D2, rfl, hN2, h4⟩; replace qb := qb.kept h4; replace hb := below_then hb h4; obtain ⟨W5, eW5⟩ : ∃ W, W4.alloc (.cells #[.int .i64 d, .int .i64 h, .int .i64 l, .int .i64 v, .int .i64 u, .int .i64 x, .int .i64 t, .int .i64 n, .slice E2.a E2.n E2.c, .slice L2.a L2.n L2.c, .slice N2.a N2.n N2.c, .slice O2.a O2.n O2.c] 29) = W := ⟨_, rfl⟩; have n5 : Below W4.heap.size W4 W5 := eW5 ▸ below_new (Below.refl _ _) _; have qx : Blk 29 W5 W4.heap.size #[.int .i64 d, .int .i64 h, .int .i64 l, .int .i64 v, .int .i64 u, .int .i64 x, .int .i64 t, .int .i64 n, .slice E2.a E2.n E2.c, .slice L2.a L2.n L2.c, .slice N2.a N2.n N2.c, .slice O2.a O2.n O2.c] := eW5 ▸ Blk.new 29 W4 _; have m2 := ((hN2.below n5).at_).congr AG.out; replace qb := qb.kept n5; replace hb := below_then hb n5; clear h4 hN2 n5 kT; obtain ⟨a0, a1, a2, a3, a4, a5, a6, a7, a8, a9, a10, a11⟩ := qb.c12; obtain ⟨b0, b1, b2, b3, b4, b5, b6, b7, b8, b9, b10, b11⟩ := qx.c12)
        | (go_at_call 21; refine (k21 E2 L2 N2 O2 Y2 U2 D2 _ hb m2).mono ?_; rintro e W6 ⟨rfl, h6⟩; replace qb := qb.kept h6; replace hb := below_then hb h6; clear h6 k21 m2 qx eW5 a0 a1 a2 a3 a4 a5 a6 a7 a8 a9 a10 a11 b0 b1 b2 b3 b4 b5 b6 b7 b8 b9 b10 b11)
        | (go_at_call 22; refine (kS _).mono ?_; rintro e W7 ⟨E3, L3, N3, O3, rfl, h7⟩; replace hb := below_then hb h7; obtain ⟨W8, eW8⟩ : ∃ W, W7.alloc (.cells #[.int .i64 0, .int .i64 0, .int .i64 0, .int .i64 0, .int .i64 0, .int .i64 0, .int .i64 0, .int .i64 0, .slice E3.a E3.n E3.c, .slice L3.a L3.n L3.c, .slice N3.a N3.n N3.c, .slice O3.a O3.n O3.c] 29) = W := ⟨_, rfl⟩; have n8 : Below W7.heap.size W7 W8 := eW8 ▸ below_new (Below.refl _ _) _; have qs : Blk 29 W8 W7.heap.size #[.int .i64 0, .int .i64 0, .int .i64 0, .int .i64 0, .int .i64 0, .int .i64 0, .int .i64 0, .int .i64 0, .slice E3.a E3.n E3.c, .slice L3.a L3.n L3.c, .slice N3.a N3.n N3.c, .slice O3.a O3.n O3.c] := eW8 ▸ Blk.new 29 W7 _; replace hb := below_then hb n8; clear h7 n8 kS; obtain ⟨c0, c1, c2, c3, c4, c5, c6, c7, -, -, -, -⟩ := qs.c12))
      go_ret
      exact ⟨rfl, hb⟩
    | true =>
      obtain ⟨oks, ws, wl, wwf, wm, we⟩ := back hd
      have k14s := fun (E3 L3 N3 O3 : SL) (Y3 U3 D3 : Nat → Nat → SL) (W : World) (m3 : ModAt W E3 L3 N3 O3 Y3 U3 D3 (decM s)) => encode_call (decC s 0) (decC s 1) (decC s 2) (decC s 3) (decC s 4) (decC s 5) (decC s 6) (decC s 7) E3 L3 N3 O3 Y3 U3 D3 _ W m3
      have ck : checkB (decC s 0) (decC s 1) (decC s 2) (decC s 3) (decC s 4) (decC s 5) (decC s 6) (decC s 7) (decM s) = 0 := by rw [wm]; exact shape_checked oks ws wl
      have ev : encV (decC s 0) (decC s 1) (decC s 2) (decC s 3) (decC s 4) (decC s 5) (decC s 6) (decC s 7) (decM s) = s := by
        unfold encV
        rw [if_pos ck, wm, shape_flat ws wl]
        exact we.symm
      simp only [ck, ev] at k14s
      have kS := dy
      simp only [show decE s = 0 by unfold decE; rw [hd]; rfl] at kS
      obtain ⟨s0, f0⟩ : ∃ z, decC s 0 = z := ⟨_, rfl⟩
      obtain ⟨s1, f1⟩ : ∃ z, decC s 1 = z := ⟨_, rfl⟩
      obtain ⟨s2, f2⟩ : ∃ z, decC s 2 = z := ⟨_, rfl⟩
      obtain ⟨s3, f3⟩ : ∃ z, decC s 3 = z := ⟨_, rfl⟩
      obtain ⟨s4, f4⟩ : ∃ z, decC s 4 = z := ⟨_, rfl⟩
      obtain ⟨s5, f5⟩ : ∃ z, decC s 5 = z := ⟨_, rfl⟩
      obtain ⟨s6, f6⟩ : ∃ z, decC s 6 = z := ⟨_, rfl⟩
      obtain ⟨s7, f7⟩ : ∃ z, decC s 7 = z := ⟨_, rfl⟩
      simp only [f0, f1, f2, f3, f4, f5, f6, f7] at kS k14s
      have seq : (s.toList == s.toList) = true := text_same rfl
      clear dn dy back hd oks wl wwf wm we ck ev f0 f1 f2 f3 f4 f5 f6 f7
      go_enter Try.func6, Try.ntmps6
      go_wp2_with (first
        | (go_at_call 26; refine (k26 _).mono ?_; rintro e W1 ⟨rfl, h1⟩; replace qb := qb.kept h1; replace hb := below_then hb h1; clear h1 k26; obtain ⟨a0, a1, a2, a3, a4, a5, a6, a7, a8, a9, a10, a11⟩ := qb.c12)
        | (go_at_call 13; refine (k13 _ hb).mono ?_; rintro e W2 ⟨E1, L1, N1, O1, Y1, U1, D1, rfl, hN1, h2⟩; replace qb := qb.kept h2; replace hb := below_then hb h2; have m1 := hN1.at_; clear h2 hN1 k13 a0 a1 a2 a3 a4 a5 a6 a7 a8 a9 a10 a11)
        | (go_at_call 14; refine (k14 E1 L1 N1 O1 Y1 U1 D1 _ m1).mono ?_; rintro e W3 ⟨rfl, h3⟩; replace qb := qb.kept h3; replace hb := below_then hb h3; clear h3 m1 k14)
        | (go_at_call 22; refine (kT _).mono ?_; rintro e W4 ⟨E2, L2, N2, O2, Y2, U2, D2, rfl, hN2, h4⟩; replace qb := qb.kept h4; replace hb := below_then hb h4; obtain ⟨W5, eW5⟩ : ∃ W, W4.alloc (.cells #[.int .i64 d, .int .i64 h, .int .i64 l, .int .i64 v, .int .i64 u, .int .i64 x, .int .i64 t, .int .i64 n, .slice E2.a E2.n E2.c, .slice L2.a L2.n L2.c, .slice N2.a N2.n N2.c, .slice O2.a O2.n O2.c] 29) = W := ⟨_, rfl⟩; have n5 : Below W4.heap.size W4 W5 := eW5 ▸ below_new (Below.refl _ _) _; have qx : Blk 29 W5 W4.heap.size #[.int .i64 d, .int .i64 h, .int .i64 l, .int .i64 v, .int .i64 u, .int .i64 x, .int .i64 t, .int .i64 n, .slice E2.a E2.n E2.c, .slice L2.a L2.n L2.c, .slice N2.a N2.n N2.c, .slice O2.a O2.n O2.c] := eW5 ▸ Blk.new 29 W4 _; have m2 := ((hN2.below n5).at_).congr AG.out; replace qb := qb.kept n5; replace hb := below_then hb n5; clear h4 hN2 n5 kT; obtain ⟨a0, a1, a2, a3, a4, a5, a6, a7, a8, a9, a10, a11⟩ := qb.c12; obtain ⟨b0, b1, b2, b3, b4, b5, b6, b7, b8, b9, b10, b11⟩ := qx.c12)
        | (go_at_call 21; refine (k21 E2 L2 N2 O2 Y2 U2 D2 _ hb m2).mono ?_; rintro e W6 ⟨rfl, h6⟩; replace qb := qb.kept h6; replace hb := below_then hb h6; clear h6 k21 m2 qx eW5 a0 a1 a2 a3 a4 a5 a6 a7 a8 a9 a10 a11 b0 b1 b2 b3 b4 b5 b6 b7 b8 b9 b10 b11)
        | (go_at_call 22; refine (kS _).mono ?_; rintro e W7 ⟨E3, L3, N3, O3, Y3, U3, D3, rfl, hN3, h7⟩; replace hb := below_then hb h7; obtain ⟨W8, eW8⟩ : ∃ W, W7.alloc (.cells #[.int .i64 s0, .int .i64 s1, .int .i64 s2, .int .i64 s3, .int .i64 s4, .int .i64 s5, .int .i64 s6, .int .i64 s7, .slice E3.a E3.n E3.c, .slice L3.a L3.n L3.c, .slice N3.a N3.n N3.c, .slice O3.a O3.n O3.c] 29) = W := ⟨_, rfl⟩; have n8 : Below W7.heap.size W7 W8 := eW8 ▸ below_new (Below.refl _ _) _; have qs : Blk 29 W8 W7.heap.size #[.int .i64 s0, .int .i64 s1, .int .i64 s2, .int .i64 s3, .int .i64 s4, .int .i64 s5, .int .i64 s6, .int .i64 s7, .slice E3.a E3.n E3.c, .slice L3.a L3.n L3.c, .slice N3.a N3.n N3.c, .slice O3.a O3.n O3.c] := eW8 ▸ Blk.new 29 W7 _; have m3 := (hN3.below n8).at_; replace hb := below_then hb n8; clear h7 n8 kS hN3; obtain ⟨c0, c1, c2, c3, c4, c5, c6, c7, c8, c9, c10, c11⟩ := qs.c12)
        | (go_at_call 14; refine (k14s E3 L3 N3 O3 Y3 U3 D3 _ m3).mono ?_; rintro e W9 ⟨rfl, h9⟩; replace hb := below_then hb h9; clear h9 m3 k14s))
      go_ret
      exact ⟨rfl, hb⟩
  · have hz' : (checkB d h l v u x t n m == 0) = false := by simp [hz]
    obtain ⟨CB, eCB⟩ : ∃ z, checkB d h l v u x t n m = z := ⟨_, rfl⟩
    obtain ⟨TT, eT⟩ : ∃ z, encV d h l v u x t n m = z := ⟨_, rfl⟩
    simp only [eCB, eT] at k14
    rw [eCB] at hz' hz
    clear eCB eT k21 hFm hF hM hmx hml
    cases hd : decOK s with
    | false =>
      have kS := dn hd
      clear dn dy back hd
      go_enter Try.func6, Try.ntmps6
      go_wp2_with (first
        | (go_at_call 26; refine (k26 _).mono ?_; rintro e W1 ⟨rfl, h1⟩; replace qb := qb.kept h1; replace hb := below_then hb h1; clear h1 k26; obtain ⟨a0, a1, a2, a3, a4, a5, a6, a7, a8, a9, a10, a11⟩ := qb.c12)
        | (go_at_call 13; refine (k13 _ hb).mono ?_; rintro e W2 ⟨E1, L1, N1, O1, Y1, U1, D1, rfl, hN1, h2⟩; replace qb := qb.kept h2; replace hb := below_then hb h2; have m1 := hN1.at_; clear h2 hN1 k13 a0 a1 a2 a3 a4 a5 a6 a7 a8 a9 a10 a11)
        | (go_at_call 14; refine (k14 E1 L1 N1 O1 Y1 U1 D1 _ m1).mono ?_; rintro e W3 ⟨rfl, h3⟩; replace qb := qb.kept h3; replace hb := below_then hb h3; clear h3 m1 k14)
        | (go_at_call 22; refine (kS _).mono ?_; rintro e W7 ⟨E3, L3, N3, O3, rfl, h7⟩; replace hb := below_then hb h7; obtain ⟨W8, eW8⟩ : ∃ W, W7.alloc (.cells #[.int .i64 0, .int .i64 0, .int .i64 0, .int .i64 0, .int .i64 0, .int .i64 0, .int .i64 0, .int .i64 0, .slice E3.a E3.n E3.c, .slice L3.a L3.n L3.c, .slice N3.a N3.n N3.c, .slice O3.a O3.n O3.c] 29) = W := ⟨_, rfl⟩; have n8 : Below W7.heap.size W7 W8 := eW8 ▸ below_new (Below.refl _ _) _; have qs : Blk 29 W8 W7.heap.size #[.int .i64 0, .int .i64 0, .int .i64 0, .int .i64 0, .int .i64 0, .int .i64 0, .int .i64 0, .int .i64 0, .slice E3.a E3.n E3.c, .slice L3.a L3.n L3.c, .slice N3.a N3.n N3.c, .slice O3.a O3.n O3.c] := eW8 ▸ Blk.new 29 W7 _; replace hb := below_then hb n8; clear h7 n8 kS; obtain ⟨c0, c1, c2, c3, c4, c5, c6, c7, -, -, -, -⟩ := qs.c12))
      go_ret
      exact ⟨rfl, hb⟩
    | true =>
      obtain ⟨oks, ws, wl, wwf, wm, we⟩ := back hd
      have k14s := fun (E3 L3 N3 O3 : SL) (Y3 U3 D3 : Nat → Nat → SL) (W : World) (m3 : ModAt W E3 L3 N3 O3 Y3 U3 D3 (decM s)) => encode_call (decC s 0) (decC s 1) (decC s 2) (decC s 3) (decC s 4) (decC s 5) (decC s 6) (decC s 7) E3 L3 N3 O3 Y3 U3 D3 _ W m3
      have ck : checkB (decC s 0) (decC s 1) (decC s 2) (decC s 3) (decC s 4) (decC s 5) (decC s 6) (decC s 7) (decM s) = 0 := by rw [wm]; exact shape_checked oks ws wl
      have ev : encV (decC s 0) (decC s 1) (decC s 2) (decC s 3) (decC s 4) (decC s 5) (decC s 6) (decC s 7) (decM s) = s := by
        unfold encV
        rw [if_pos ck, wm, shape_flat ws wl]
        exact we.symm
      simp only [ck, ev] at k14s
      have kS := dy
      simp only [show decE s = 0 by unfold decE; rw [hd]; rfl] at kS
      obtain ⟨s0, f0⟩ : ∃ z, decC s 0 = z := ⟨_, rfl⟩
      obtain ⟨s1, f1⟩ : ∃ z, decC s 1 = z := ⟨_, rfl⟩
      obtain ⟨s2, f2⟩ : ∃ z, decC s 2 = z := ⟨_, rfl⟩
      obtain ⟨s3, f3⟩ : ∃ z, decC s 3 = z := ⟨_, rfl⟩
      obtain ⟨s4, f4⟩ : ∃ z, decC s 4 = z := ⟨_, rfl⟩
      obtain ⟨s5, f5⟩ : ∃ z, decC s 5 = z := ⟨_, rfl⟩
      obtain ⟨s6, f6⟩ : ∃ z, decC s 6 = z := ⟨_, rfl⟩
      obtain ⟨s7, f7⟩ : ∃ z, decC s 7 = z := ⟨_, rfl⟩
      simp only [f0, f1, f2, f3, f4, f5, f6, f7] at kS k14s
      have seq : (s.toList == s.toList) = true := text_same rfl
      clear dn dy back hd oks wl wwf wm we ck ev f0 f1 f2 f3 f4 f5 f6 f7
      go_enter Try.func6, Try.ntmps6
      go_wp2_with (first
        | (go_at_call 26; refine (k26 _).mono ?_; rintro e W1 ⟨rfl, h1⟩; replace qb := qb.kept h1; replace hb := below_then hb h1; clear h1 k26; obtain ⟨a0, a1, a2, a3, a4, a5, a6, a7, a8, a9, a10, a11⟩ := qb.c12)
        | (go_at_call 13; refine (k13 _ hb).mono ?_; rintro e W2 ⟨E1, L1, N1, O1, Y1, U1, D1, rfl, hN1, h2⟩; replace qb := qb.kept h2; replace hb := below_then hb h2; have m1 := hN1.at_; clear h2 hN1 k13 a0 a1 a2 a3 a4 a5 a6 a7 a8 a9 a10 a11)
        | (go_at_call 14; refine (k14 E1 L1 N1 O1 Y1 U1 D1 _ m1).mono ?_; rintro e W3 ⟨rfl, h3⟩; replace qb := qb.kept h3; replace hb := below_then hb h3; clear h3 m1 k14)
        | (go_at_call 22; refine (kS _).mono ?_; rintro e W7 ⟨E3, L3, N3, O3, Y3, U3, D3, rfl, hN3, h7⟩; replace hb := below_then hb h7; obtain ⟨W8, eW8⟩ : ∃ W, W7.alloc (.cells #[.int .i64 s0, .int .i64 s1, .int .i64 s2, .int .i64 s3, .int .i64 s4, .int .i64 s5, .int .i64 s6, .int .i64 s7, .slice E3.a E3.n E3.c, .slice L3.a L3.n L3.c, .slice N3.a N3.n N3.c, .slice O3.a O3.n O3.c] 29) = W := ⟨_, rfl⟩; have n8 : Below W7.heap.size W7 W8 := eW8 ▸ below_new (Below.refl _ _) _; have qs : Blk 29 W8 W7.heap.size #[.int .i64 s0, .int .i64 s1, .int .i64 s2, .int .i64 s3, .int .i64 s4, .int .i64 s5, .int .i64 s6, .int .i64 s7, .slice E3.a E3.n E3.c, .slice L3.a L3.n L3.c, .slice N3.a N3.n N3.c, .slice O3.a O3.n O3.c] := eW8 ▸ Blk.new 29 W7 _; have m3 := (hN3.below n8).at_; replace hb := below_then hb n8; clear h7 n8 kS hN3; obtain ⟨c0, c1, c2, c3, c4, c5, c6, c7, c8, c9, c10, c11⟩ := qs.c12)
        | (go_at_call 14; refine (k14s E3 L3 N3 O3 Y3 U3 D3 _ m3).mono ?_; rintro e W9 ⟨rfl, h9⟩; replace hb := below_then hb h9; clear h9 m3 k14s))
      go_ret
      exact ⟨rfl, hb⟩

end Go.Proofs.Ytjbeloljbjfibaa
