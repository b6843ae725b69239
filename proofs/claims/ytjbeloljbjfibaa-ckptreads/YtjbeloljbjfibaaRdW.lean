/- CkptReads. -/
import Derived.Test.YtjbeloljbjfibaaRows
import Derived.Test.YtjbeloljbjfibaaLayer8
import Derived.Test.YtjbeloljbjfibaaConf
import Derived.Test.YtjbeloljbjfibaaBlank
import Derived.Test.YtjbeloljbjfibaaCfgRef
import Derived.Test.YtjbeloljbjfibaaSize
import Derived.Test.YtjbeloljbjfibaaSizes
import Derived.Test.YtjbeloljbjfibaaSteps
import Derived.Test.YtjbeloljbjfibaaClo54
import Derived.Test.YtjbeloljbjfibaaFill
import Derived.Test.YtjbeloljbjfibaaMods
import Derived.Test.YtjbeloljbjfibaaFills
import Derived.Test.YtjbeloljbjfibaaShape
import Derived.Test.YtjbeloljbjfibaaShapes
import Derived.Test.YtjbeloljbjfibaaCheck
import Derived.Test.YtjbeloljbjfibaaChecks
import Derived.Test.YtjbeloljbjfibaaDims
import Derived.Test.YtjbeloljbjfibaaFlat
import Derived.Test.YtjbeloljbjfibaaNumbers
import Derived.Test.YtjbeloljbjfibaaPrefix
import Derived.Test.YtjbeloljbjfibaaBody
import Derived.Test.YtjbeloljbjfibaaDecode
import Derived.WalkKit
import Derived.ProofKit
import Derived.OpenShut
import Derived.Below
import Derived.WalkLawsBesides
import Derived.Deep.QuietTactic
import Derived.BigQuiet
import Derived.Deep.RegionWith
import Derived.Deep.RegionHeld3
import Derived.Deep.OwnRows
import Derived.Deep.Slices
import Derived.Test.YtjbeloljbjfibaaTrips
import Derived.Test.YtjbeloljbjfibaaInv
import Derived.Test.YtjbeloljbjfibaaBuild
import Derived.Test.YtjbeloljbjfibaaTypedC
import Derived.Test.YtjbeloljbjfibaaEqWorks
import Derived.Test.YtjbeloljbjfibaaCuts
import Derived.Test.YtjbeloljbjfibaaSameLM
import Derived.Test.YtjbeloljbjfibaaOwns
import Derived.Test.YtjbeloljbjfibaaJoin
import Derived.Test.YtjbeloljbjfibaaShp
import Derived.Test.YtjbeloljbjfibaaReadsA
import Derived.Test.YtjbeloljbjfibaaRd5
import Derived.Test.YtjbeloljbjfibaaMore
namespace Go.Proofs.Ytjbeloljbjfibaa
open Go.ChangeShapes Go.WideShapes Go.ChangeAt Go.RowKit
set_option linter.unusedVariables false

/-- few layers, few networks -/
def Few (m : ModV) : Prop := m.ln ≤ 2 ∧ ∀ i, m.un i ≤ 4 ∧ m.dn i ≤ 4
theorem few_shape {d h l v u x t n : Int} (ok : okB d h l v u x t n = true) (ws : List Int) : Few (shapeV d l v u x ws) := by
  have dm := dims_of ok
  exact ⟨dm.l1, fun i => ⟨dm.n1, dm.n1⟩⟩
theorem few_no : Few noV := ⟨Nat.zero_le _, fun i => ⟨Nat.zero_le _, Nat.zero_le _⟩⟩
theorem few_dec (s : ByteArray) : Few (decM s) := by
  unfold decM
  split
  · rename_i hd
    unfold decOK bodyOK at hd
    simp only [Bool.and_eq_true] at hd
    exact few_shape (h := rdNum (bodyS (openT s)) 1) (t := rdNum (bodyS (openT s)) 6) (n := rdNum (bodyS (openT s)) 7) hd.2.1 _
  · exact few_no
theorem few_sh (d h l v u x t n : Int) (zs : List Int) : Few (shM d h l v u x t n zs) := by
  unfold shM
  split
  · rename_i hd
    unfold shG at hd
    simp only [Bool.and_eq_true] at hd
    exact few_shape hd.1 _
  · exact few_no

theorem same_few {m : ModV} (f : Few m) (d h l v u x t n : Int) (E L N O E' L' N' O' : SL) (Y U D Y' U' D' : Nat → Nat → SL) (w : World) (hA : ModAt w E L N O Y U D m) (hB : ModAt w E' L' N' O' Y' U' D' m) :
    Calls Try.prog 21 #[.agg #[.int .i64 d, .int .i64 h, .int .i64 l, .int .i64 v, .int .i64 u, .int .i64 x, .int .i64 t, .int .i64 n, .slice E.a E.n E.c, .slice L.a L.n L.c, .slice N.a N.n N.c, .slice O.a O.n O.c], .agg #[.int .i64 d, .int .i64 h, .int .i64 l, .int .i64 v, .int .i64 u, .int .i64 x, .int .i64 t, .int .i64 n, .slice E'.a E'.n E'.c, .slice L'.a L'.n L'.c, .slice N'.a N'.n N'.c, .slice O'.a O'.n O'.c]] w fun e w' => e = .returned (.bool true) ∧ Below w.heap.size w w' :=
  sameM_call d h l v u x t n E L N O E' L' N' O' Y U D Y' U' D' m w hA hB (by have := f.1; omega) (fun i _ => by have := f.2 i; omega)

set_option maxHeartbeats 8000000 in
set_option maxRecDepth 20000 in
theorem reads_walk (s : ByteArray) (d h l v u x t n : Int) (S : SL) (zs : List Int) (w : World) (hS : IsS w S zs) (hz : zs.length ≤ 140737488355328) (hs : s.size ≤ 9223372036854775807) :
    Calls Try.prog 5 #[.string s, .agg #[.int .i64 d, .int .i64 h, .int .i64 l, .int .i64 v, .int .i64 u, .int .i64 x, .int .i64 t, .int .i64 n], .slice S.a S.n S.c] w fun e w' => e = .returned (.bool true) ∧ Below w.heap.size w w' := by
  have hb := below_new (Below.refl w.heap.size w) (.cells #[.int .i64 d, .int .i64 h, .int .i64 l, .int .i64 v, .int .i64 u, .int .i64 x, .int .i64 t, .int .i64 n] 23)
  have qc := Blk.new 23 w #[.int .i64 d, .int .i64 h, .int .i64 l, .int .i64 v, .int .i64 u, .int .i64 x, .int .i64 t, .int .i64 n]
  by_cases c2 : 40000 < s.size
  · have c2' : (40000 : Int) < (s.size : Int) := by omega
    clear hS qc
    go_enter Try.func5, Try.ntmps5
    go_wp2
    go_ret
    exact ⟨rfl, hb⟩
  have c2' : ¬ (40000 : Int) < (s.size : Int) := by omega
  have c2d : decide ((40000 : Int) < (s.size : Int)) = false := by simp; omega
  have k22 := fun W => decode_call s W (by omega)
  have k23 := fun W => refDecode_call s W (by omega)
  have k24 : ∀ W (s' : SL), IsS W s' zs → _ := fun W s' hs' => shape_any d h l v u x t n s' zs W hs'
  have k25 : ∀ W (s' : SL), IsS W s' zs → _ := fun W s' hs' => refShape_any d h l v u x t n s' zs W hs'
  have k21a := fun (E L N O E' L' N' O' : SL) (Y U D Y' U' D' : Nat → Nat → SL) (w : World) hA hB => same_few (few_dec s) (decC s 0) (decC s 1) (decC s 2) (decC s 3) (decC s 4) (decC s 5) (decC s 6) (decC s 7) E L N O E' L' N' O' Y U D Y' U' D' w hA hB
  obtain ⟨G, eG⟩ : ∃ G, shG d h l v u x t n zs = G := ⟨_, rfl⟩
  have k21b := fun (E L N O E' L' N' O' : SL) (Y U D Y' U' D' : Nat → Nat → SL) (w : World) hA hB => same_few (few_sh d h l v u x t n zs) (shC G d) (shC G h) (shC G l) (shC G v) (shC G u) (shC G x) (shC G t) (shC G n) E L N O E' L' N' O' Y U D Y' U' D' w hA hB
  obtain ⟨DM, eDM⟩ : ∃ m, decM s = m := ⟨_, rfl⟩
  obtain ⟨SM, eSM⟩ : ∃ m, shM d h l v u x t n zs = m := ⟨_, rfl⟩
  obtain ⟨DE, eDE⟩ : ∃ z, decE s = z := ⟨_, rfl⟩
  obtain ⟨SE, eSE⟩ : ∃ z, shE d h l v u x t n zs = z := ⟨_, rfl⟩
  obtain ⟨C0, eC0⟩ : ∃ z, decC s 0 = z := ⟨_, rfl⟩
  obtain ⟨C1, eC1⟩ : ∃ z, decC s 1 = z := ⟨_, rfl⟩
  obtain ⟨C2, eC2⟩ : ∃ z, decC s 2 = z := ⟨_, rfl⟩
  obtain ⟨C3, eC3⟩ : ∃ z, decC s 3 = z := ⟨_, rfl⟩
  obtain ⟨C4, eC4⟩ : ∃ z, decC s 4 = z := ⟨_, rfl⟩
  obtain ⟨C5, eC5⟩ : ∃ z, decC s 5 = z := ⟨_, rfl⟩
  obtain ⟨C6, eC6⟩ : ∃ z, decC s 6 = z := ⟨_, rfl⟩
  obtain ⟨C7, eC7⟩ : ∃ z, decC s 7 = z := ⟨_, rfl⟩
  obtain ⟨G0, eG0⟩ : ∃ z, shC G d = z := ⟨_, rfl⟩
  obtain ⟨G1, eG1⟩ : ∃ z, shC G h = z := ⟨_, rfl⟩
  obtain ⟨G2, eG2⟩ : ∃ z, shC G l = z := ⟨_, rfl⟩
  obtain ⟨G3, eG3⟩ : ∃ z, shC G v = z := ⟨_, rfl⟩
  obtain ⟨G4, eG4⟩ : ∃ z, shC G u = z := ⟨_, rfl⟩
  obtain ⟨G5, eG5⟩ : ∃ z, shC G x = z := ⟨_, rfl⟩
  obtain ⟨G6, eG6⟩ : ∃ z, shC G t = z := ⟨_, rfl⟩
  obtain ⟨G7, eG7⟩ : ∃ z, shC G n = z := ⟨_, rfl⟩
  simp only [eDM, eDE, eC0, eC1, eC2, eC3, eC4, eC5, eC6, eC7] at k22 k23 k21a
  simp only [eG, eSM, eSE, eG0, eG1, eG2, eG3, eG4, eG5, eG6, eG7] at k24 k25 k21b
  clear eG eDM eSM eDE eSE eC0 eG0 eC1 eG1 eC2 eG2 eC3 eG3 eC4 eG4 eC5 eG5 eC6 eG6 eC7 eG7
  have HS := hidden_ hS
  clear hS
  go_enter Try.func5, Try.ntmps5
  go_wp2_with (first
    | (go_at_call 22; refine (k22 _).mono ?_; rintro e W1 ⟨E1, L1, N1, O1, Y1, U1, D1, rfl, hN1, h1⟩; replace qc := qc.kept h1; replace hb := below_then hb h1; obtain ⟨A1, eA1⟩ : ∃ A, W1.alloc (.cells #[.int .i64 C0, .int .i64 C1, .int .i64 C2, .int .i64 C3, .int .i64 C4, .int .i64 C5, .int .i64 C6, .int .i64 C7, .slice E1.a E1.n E1.c, .slice L1.a L1.n L1.c, .slice N1.a N1.n N1.c, .slice O1.a O1.n O1.c] 29) = A := ⟨_, rfl⟩; have n1 : Below W1.heap.size W1 A1 := eA1 ▸ below_new (Below.refl _ _) _; have q1 : Blk 29 A1 W1.heap.size #[.int .i64 C0, .int .i64 C1, .int .i64 C2, .int .i64 C3, .int .i64 C4, .int .i64 C5, .int .i64 C6, .int .i64 C7, .slice E1.a E1.n E1.c, .slice L1.a L1.n L1.c, .slice N1.a N1.n N1.c, .slice O1.a O1.n O1.c] := eA1 ▸ Blk.new 29 W1 _; replace hN1 := hN1.below n1; replace qc := qc.kept n1; replace hb := below_then hb n1; clear h1 n1 k22)
    | (go_at_call 23; refine (k23 _).mono ?_; rintro e W2 ⟨E2, L2, N2, O2, Y2, U2, D2, rfl, hN2, h2⟩; replace qc := qc.kept h2; replace q1 := q1.kept h2; replace hN1 := hN1.below h2; replace hb := below_then hb h2; obtain ⟨A2, eA2⟩ : ∃ A, W2.alloc (.cells #[.int .i64 C0, .int .i64 C1, .int .i64 C2, .int .i64 C3, .int .i64 C4, .int .i64 C5, .int .i64 C6, .int .i64 C7, .slice E2.a E2.n E2.c, .slice L2.a L2.n L2.c, .slice N2.a N2.n N2.c, .slice O2.a O2.n O2.c] 29) = A := ⟨_, rfl⟩; have n2 : Below W2.heap.size W2 A2 := eA2 ▸ below_new (Below.refl _ _) _; have q2 : Blk 29 A2 W2.heap.size #[.int .i64 C0, .int .i64 C1, .int .i64 C2, .int .i64 C3, .int .i64 C4, .int .i64 C5, .int .i64 C6, .int .i64 C7, .slice E2.a E2.n E2.c, .slice L2.a L2.n L2.c, .slice N2.a N2.n N2.c, .slice O2.a O2.n O2.c] := eA2 ▸ Blk.new 29 W2 _; replace hN1 := hN1.below n2; replace hN2 := hN2.below n2; replace qc := qc.kept n2; replace q1 := q1.kept n2; replace hb := below_then hb n2; clear h2 n2 k23 eA1))
  refine reads_region (.agg #[.int .i64 d, .int .i64 h, .int .i64 l, .int .i64 v, .int .i64 u, .int .i64 x, .int .i64 t, .int .i64 n]) G0 G1 G2 G3 G4 G5 G6 G7 SE SM S zs w.heap.size (by kernel_rfl) rfl ⟨_, rfl, rfl, rfl, rfl, by kernel_rfl⟩ ⟨_, rfl, rfl, rfl, rfl, by kernel_rfl⟩ ⟨_, rfl, rfl, rfl, rfl, by kernel_rfl⟩ ⟨_, rfl, rfl, rfl, rfl, by kernel_rfl⟩ ⟨_, rfl, rfl, rfl, rfl, by kernel_rfl⟩ ⟨_, rfl, rfl, rfl, rfl, by kernel_rfl⟩ ⟨_, rfl, rfl, rfl, rfl, by kernel_rfl⟩ ⟨_, rfl, rfl, rfl, rfl, by kernel_rfl⟩ ⟨_, rfl, rfl, rfl, rfl, by kernel_rfl⟩ ⟨_, rfl, rfl, rfl, rfl, by kernel_rfl⟩ ⟨_, rfl, rfl, rfl, rfl, by kernel_rfl⟩ k24 (fun W hw => run_load23 (qc.kept hw)) rfl rfl (HS.out.below hb) hz (Nat.le_of_ble_eq_true rfl) ?_
  intro a W5 xb E3 L3 N3 O3 Y3 U3 D3 hs' hd hkp v11 v12 hxb q3' hN3 h5
  have ep := frame_puts [29, 30, 31, 32, 33, 28, 34, 35, 11, 12] hs' hd (fun s h' => hkp s (rdD_out h'))
  simp only [List.foldl] at ep
  rw [v11, v12] at ep
  clear hs' hd hkp v11 v12 eA2 k24
  generalize a.tmps.getD 29 undef = g29 at ep
  generalize a.tmps.getD 30 undef = g30 at ep
  generalize a.tmps.getD 31 undef = g31 at ep
  generalize a.tmps.getD 32 undef = g32 at ep
  generalize a.tmps.getD 33 undef = g33 at ep
  generalize a.tmps.getD 28 undef = g28 at ep
  generalize a.tmps.getD 34 undef = g34 at ep
  generalize a.tmps.getD 35 undef = g35 at ep
  simp only [Act.put, List.setIfInBounds_toArray, List.set_cons_succ, List.set_cons_zero] at ep
  subst ep
  have q3 : Blk 29 W5 xb #[.int .i64 G0, .int .i64 G1, .int .i64 G2, .int .i64 G3, .int .i64 G4, .int .i64 G5, .int .i64 G6, .int .i64 G7, .slice E3.a E3.n E3.c, .slice L3.a L3.n L3.c, .slice N3.a N3.n N3.c, .slice O3.a O3.n O3.c] := q3'
  clear q3'
  replace qc := qc.kept h5
  replace q1 := q1.kept h5
  replace q2 := q2.kept h5
  replace hN1 := hN1.below h5
  replace hN2 := hN2.below h5
  replace hb := below_then hb h5
  clear h5
  obtain ⟨d0, d1, d2, d3, d4, d5, d6, d7⟩ := qc.cfg
  go_wp2_with (first
    | (go_at_call 25; refine (k25 _ S (HS.out.below hb)).mono ?_; rintro e W6 ⟨E4, L4, N4, O4, Y4, U4, D4, rfl, hN4, h6⟩; obtain ⟨A4, eA4⟩ : ∃ A, W6.alloc (.cells #[.int .i64 G0, .int .i64 G1, .int .i64 G2, .int .i64 G3, .int .i64 G4, .int .i64 G5, .int .i64 G6, .int .i64 G7, .slice E4.a E4.n E4.c, .slice L4.a L4.n L4.c, .slice N4.a N4.n N4.c, .slice O4.a O4.n O4.c] 29) = A := ⟨_, rfl⟩; have n4 : Below W6.heap.size W6 A4 := eA4 ▸ below_new (Below.refl _ _) _; have q4 : Blk 29 A4 W6.heap.size #[.int .i64 G0, .int .i64 G1, .int .i64 G2, .int .i64 G3, .int .i64 G4, .int .i64 G5, .int .i64 G6, .int .i64 G7, .slice E4.a E4.n E4.c, .slice L4.a L4.n L4.c, .slice N4.a N4.n N4.c, .slice O4.a O4.n O4.c] := eA4 ▸ Blk.new 29 W6 _; have h46 := below_then h6 n4; replace q1 := q1.kept h46; replace q2 := q2.kept h46; replace q3 := q3.kept h46; have m1 := (hN1.below h46).at_; have m2 := (hN2.below h46).at_; have m3 := (hN3.below h46).at_; have m4 := (hN4.below n4).at_; replace hb := below_then hb h46; clear h6 n4 h46 hN1 hN2 hN3 hN4 k25 d0 d1 d2 d3 d4 d5 d6 d7; obtain ⟨a0, a1, a2, a3, a4, a5, a6, a7, a8, a9, a10, a11⟩ := q1.c12; obtain ⟨b0, b1, b2, b3, b4, b5, b6, b7, b8, b9, b10, b11⟩ := q2.c12)
    | (go_at_call 21; refine (k21a E1 L1 N1 O1 E2 L2 N2 O2 Y1 U1 D1 Y2 U2 D2 _ m1 m2).mono ?_; rintro e W7 ⟨rfl, h7⟩; replace q3 := q3.kept h7; replace q4 := q4.kept h7; replace m3 := m3.below h7; replace m4 := m4.below h7; replace hb := below_then hb h7; clear h7 m1 m2 k21a eA4 a0 a1 a2 a3 a4 a5 a6 a7 a8 a9 a10 a11 b0 b1 b2 b3 b4 b5 b6 b7 b8 b9 b10 b11; obtain ⟨a0, a1, a2, a3, a4, a5, a6, a7, a8, a9, a10, a11⟩ := q3.c12; obtain ⟨b0, b1, b2, b3, b4, b5, b6, b7, b8, b9, b10, b11⟩ := q4.c12)
    | (go_at_call 21; refine (k21b E3 L3 N3 O3 E4 L4 N4 O4 Y3 U3 D3 Y4 U4 D4 _ m3 m4).mono ?_; rintro e W8 ⟨rfl, h8⟩; replace hb := below_then hb h8; clear h8 m3 m4 k21b a0 a1 a2 a3 a4 a5 a6 a7 a8 a9 a10 a11 b0 b1 b2 b3 b4 b5 b6 b7 b8 b9 b10 b11))
  go_ret
  exact ⟨rfl, hb⟩

end Go.Proofs.Ytjbeloljbjfibaa
