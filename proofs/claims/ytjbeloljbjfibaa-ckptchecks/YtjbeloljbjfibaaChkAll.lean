/- The document's Check and Encode of any model; CkptChecks. -/
import Derived.Test.YtjbeloljbjfibaaRows
import Derived.Test.YtjbeloljbjfibaaLayer8
import Derived.Test.YtjbeloljbjfibaaConf
import Derived.Test.YtjbeloljbjfibaaBlank
import Derived.Test.YtjbeloljbjfibaaCfgRef
import Derived.Test.YtjbeloljbjfibaaSize
import Derived.Test.YtjbeloljbjfibaaSizes
import Derived.Test.YtjbeloljbjfibaaSteps
import Derived.Test.YtjbeloljbjfibaaClo54
import Derived.Test.YtjbeloljbjfibaaFill
import Derived.Test.YtjbeloljbjfibaaMods
import Derived.Test.YtjbeloljbjfibaaFills
import Derived.Test.YtjbeloljbjfibaaShape
import Derived.Test.YtjbeloljbjfibaaShapes
import Derived.Test.YtjbeloljbjfibaaCheck
import Derived.Test.YtjbeloljbjfibaaChecks
import Derived.Test.YtjbeloljbjfibaaDims
import Derived.Test.YtjbeloljbjfibaaFlat
import Derived.Test.YtjbeloljbjfibaaNumbers
import Derived.Test.YtjbeloljbjfibaaPrefix
import Derived.Test.YtjbeloljbjfibaaBody
import Derived.Test.YtjbeloljbjfibaaDecode
import Derived.WalkKit
import Derived.ProofKit
import Derived.OpenShut
import Derived.Below
import Derived.WalkLawsBesides
import Derived.Deep.QuietTactic
import Derived.BigQuiet
import Derived.Deep.RegionWith
import Derived.Deep.RegionHeld3
import Derived.Deep.OwnRows
import Derived.Deep.Slices
import Derived.Test.YtjbeloljbjfibaaTrips
import Derived.Test.YtjbeloljbjfibaaInv
import Derived.Test.YtjbeloljbjfibaaBuild
import Derived.Test.YtjbeloljbjfibaaTypedC
import Derived.Test.YtjbeloljbjfibaaEqWorks
import Derived.Test.YtjbeloljbjfibaaCuts
import Derived.Test.YtjbeloljbjfibaaSameLM
import Derived.Test.YtjbeloljbjfibaaOwns
import Derived.Test.YtjbeloljbjfibaaJoin
import Derived.Test.YtjbeloljbjfibaaRefChk
import Derived.Test.YtjbeloljbjfibaaLay
import Derived.Test.YtjbeloljbjfibaaChkFew
import Derived.Test.YtjbeloljbjfibaaChkMany
import Derived.Test.YtjbeloljbjfibaaChk6
import Derived.Test.YtjbeloljbjfibaaRefEnc
import Derived.Test.YtjbeloljbjfibaaRefFlat
namespace Go.Proofs.Ytjbeloljbjfibaa
open Go.ChangeShapes Go.WideShapes Go.ChangeAt Go.RowKit
set_option linter.unusedVariables false

theorem refCheck_call (d h l v u x t n : Int) (E L N O : SL) (Y U D : Nat → Nat → SL) (m : ModV) (w : World) (hM : ModAt w E L N O Y U D m) (hmx : m.ln ≤ 9223372036854775807) :
    Calls Try.prog 17 #[.agg #[.int .i64 d, .int .i64 h, .int .i64 l, .int .i64 v, .int .i64 u, .int .i64 x, .int .i64 t, .int .i64 n, .slice E.a E.n E.c, .slice L.a L.n L.c, .slice N.a N.n N.c, .slice O.a O.n O.c]] w fun e w' => e = .returned (.int .i64 (checkB d h l v u x t n m)) ∧ Below w.heap.size w w' := by
  cases ok : okB d h l v u x t n with
  | false =>
    have : checkB d h l v u x t n m = 20 := by unfold checkB; rw [ok]; rfl
    rw [this]
    exact refCheck_no d h l v u x t n E L N O ok w
  | true =>
    have dm := dims_of ok
    obtain ⟨good, bad⟩ := chk_iff ok m
    have k10 := refConfig_call d h l v u x t n
    simp only [ok] at k10
    have hx : x = 0 ∨ 2 ≤ x := by
      unfold okB expertsB at ok
      simp only [Bool.and_eq_true, decide_eq_true_eq] at ok
      omega
    have hl : L = ⟨L.a, L.n, L.c⟩ := rfl
    have hLn := hM.len
    rcases hx with hx | hx
    · have n1 : netsN x = 1 := by unfold netsN; rw [hx]; rfl
      rw [n1] at good bad
      have key := refCheck_few h v u x t n d.toNat (d * d).toNat (x * d).toNat (u * d).toNat (v * d).toNat L.n L.c l.toNat L.a E L N O Y U D m w (checkB d h l v u x t n m) (by rw [← dm.ed]; exact dm.e1) (by rw [← dm.ed]; exact dm.e2) (by rw [← dm.ed]; exact dm.e3) (by rw [← dm.ed]; exact dm.e4) (by rw [← dm.ed, Int.mul_comm]; exact dm.e4) (by omega)
        dm.b0 dm.b1 dm.b2 dm.b3 dm.b4 hl hM (by omega) (by rw [← dm.ed, ← dm.el]; exact k10) good bad
      rw [← dm.ed, ← dm.el] at key
      exact key
    · have en : x = (netsN x : Int) := by have := dm.en; omega
      have key := refCheck_many h v u t n d.toNat (d * d).toNat (x * d).toNat (u * d).toNat (v * d).toNat (netsN x) L.n L.c l.toNat L.a E L N O Y U D m w (checkB d h l v u x t n m) (by rw [← dm.ed]; exact dm.e1) (by rw [← dm.ed]; exact dm.e2) (by rw [← dm.ed, ← en]; exact dm.e3) (by rw [← dm.ed]; exact dm.e4) (by rw [← dm.ed, Int.mul_comm]; exact dm.e4) (by omega) dm.n1
        dm.b0 dm.b1 dm.b2 dm.b3 dm.b4 hl hM (by omega) (by rw [← dm.ed, ← dm.el, ← en]; exact k10) good bad
      rw [← dm.ed, ← dm.el, ← en] at key
      exact key

theorem refEncode_call (d h l v u x t n : Int) (E L N O : SL) (Y U D : Nat → Nat → SL) (m : ModV) (w : World) (hM : ModAt w E L N O Y U D m) (hmx : m.ln ≤ 9223372036854775807) :
    Calls Try.prog 15 #[.agg #[.int .i64 d, .int .i64 h, .int .i64 l, .int .i64 v, .int .i64 u, .int .i64 x, .int .i64 t, .int .i64 n, .slice E.a E.n E.c, .slice L.a L.n L.c, .slice N.a N.n N.c, .slice O.a O.n O.c]] w fun e w' => e = .returned (.tuple #[.string (encV d h l v u x t n m), .int .i64 (checkB d h l v u x t n m)]) ∧ Below w.heap.size w w' := by
  have k17 := fun W hb => refCheck_call d h l v u x t n E L N O Y U D m W (hM.below (w' := W) hb) hmx
  have k20 := fun W (hb : Below w.heap.size w W) => refFlat_call d h l v u x t n E L N O Y U D m W (hM.below (w' := W) hb) (fun W' hb' => k17 W' (below_then hb hb'))
  unfold encV
  by_cases hz : checkB d h l v u x t n m = 0
  · rw [if_pos hz, hz]
    obtain ⟨ok, _, _, _⟩ := checked hz
    have r := right_of ok
    have dm := dims_of ok
    have fl := flat_length hz
    simp only [hz] at k17
    simp only [hz, if_true] at k20
    have sw := wtsS_size (flatV x l m)
    have hs := headS_size d h l v u x t n
    exact refEncode_yes d h l v u x t n E N O L.a L.n L.c w (flatV x l m) (two d) (two h) (two l) (two v) (two u) (two x) (two t) (two n) (wtsS (flatV x l m)) (sealS (headS d h l v u x t n ++ wtsS (flatV x l m))) (fun w => (refTwo_call d w (wf_i64 (by have := r.d0; omega) (by have := r.d1; omega))).mono fun e w' hh => by obtain ⟨e1, o, e2⟩ := hh; exact ⟨e1, below_one' e2⟩) (two_size _) (fun w => (refTwo_call h w (wf_i64 (by have := r.h0; omega) (by have := r.h1; omega))).mono fun e w' hh => by obtain ⟨e1, o, e2⟩ := hh; exact ⟨e1, below_one' e2⟩) (two_size _) (fun w => (refTwo_call l w (wf_i64 (by have := r.l0; omega) (by have := r.l1; omega))).mono fun e w' hh => by obtain ⟨e1, o, e2⟩ := hh; exact ⟨e1, below_one' e2⟩) (two_size _) (fun w => (refTwo_call v w (wf_i64 (by have := r.v0; omega) (by have := r.v1; omega))).mono fun e w' hh => by obtain ⟨e1, o, e2⟩ := hh; exact ⟨e1, below_one' e2⟩) (two_size _) (fun w => (refTwo_call u w (wf_i64 (by have := r.u0; omega) (by have := r.u1; omega))).mono fun e w' hh => by obtain ⟨e1, o, e2⟩ := hh; exact ⟨e1, below_one' e2⟩) (two_size _) (fun w => (refTwo_call x w (wf_i64 (by have := r.x0; omega) (by have := r.x1; omega))).mono fun e w' hh => by obtain ⟨e1, o, e2⟩ := hh; exact ⟨e1, below_one' e2⟩) (two_size _) (fun w => (refTwo_call t w (wf_i64 (by have := r.t0; omega) (by have := r.t1; omega))).mono fun e w' hh => by obtain ⟨e1, o, e2⟩ := hh; exact ⟨e1, below_one' e2⟩) (two_size _) (fun w => (refTwo_call n w (wf_i64 (by have := r.n0; omega) (by have := r.n1; omega))).mono fun e w' hh => by obtain ⟨e1, o, e2⟩ := hh; exact ⟨e1, below_one' e2⟩) (two_size _)
      k17 k20 (fun W s hs => refWeights_call s.a s.n s.c _ W hs.reads) (by omega) (fun W => (refSeal_call (headS d h l v u x t n ++ wtsS (flatV x l m)) W (by rw [ByteArray.size_append]; omega)).mono fun e w' hh => by obtain ⟨e1, o, e2⟩ := hh; exact ⟨e1, below_one' e2⟩)
  · rw [if_neg hz]
    exact refEncode_no d h l v u x t n E N O L.a L.n L.c _ (by simp [hz]) w k17

theorem ckD_out {s : Nat} (h : s ∉ [24, 25, 26, 27, 28, 29, 30, 31, 32, 33, 34, 35, 36, 37, 38, 39, 40, 41, 42, 43, 44, 45, 46, 47, 48, 49, 50, 2]) : ∀ j, j < 28 → ckD j ≠ some s := by
  intro j hj e
  apply h
  have H : ∀ j, j < 28 → (match ckD j with | some s => decide (s ∈ [24, 25, 26, 27, 28, 29, 30, 31, 32, 33, 34, 35, 36, 37, 38, 39, 40, 41, 42, 43, 44, 45, 46, 47, 48, 49, 50, 2]) | none => true) = true := by decide
  have := H j hj
  rw [e] at this
  simpa using this

set_option maxHeartbeats 8000000 in
set_option maxRecDepth 20000 in
theorem checks_walk (d h l v u x t n : Int) (E N O : SL) (La : Option Addr) (ml Lc : Nat) (L : SL) (Y U D : Nat → Nat → SL) (m : ModV) (w : World) (hM : ModAt w E L N O Y U D m) (hF : m.ln ≤ 20 → Fits m) (e1 : L = ⟨La, ml, Lc⟩) (hmx : m.ln ≤ 9223372036854775807) :
    Calls Try.prog 4 #[.agg #[.int .i64 d, .int .i64 h, .int .i64 l, .int .i64 v, .int .i64 u, .int .i64 x, .int .i64 t, .int .i64 n, .slice E.a E.n E.c, .slice La ml Lc, .slice N.a N.n N.c, .slice O.a O.n O.c]] w fun e w' => e = .returned (.bool true) ∧ Below w.heap.size w w' := by
  have hml : ml = m.ln := by have := hM.len; rw [e1] at this; exact this
  have hb := below_new (Below.refl w.heap.size w) (.cells #[.int .i64 d, .int .i64 h, .int .i64 l, .int .i64 v, .int .i64 u, .int .i64 x, .int .i64 t, .int .i64 n, .slice E.a E.n E.c, .slice La ml Lc, .slice N.a N.n N.c, .slice O.a O.n O.c] 29)
  have qb := Blk.new 29 w #[.int .i64 d, .int .i64 h, .int .i64 l, .int .i64 v, .int .i64 u, .int .i64 x, .int .i64 t, .int .i64 n, .slice E.a E.n E.c, .slice La ml Lc, .slice N.a N.n N.c, .slice O.a O.n O.c]
  have hml' : ml ≤ 9223372036854775807 := by omega
  obtain ⟨a0, a1, a2, a3, a4, a5, a6, a7, a8, a9, a10, a11⟩ := qb.c12
  by_cases c1 : 20 < ml
  · have c1' : (20 : Int) < (ml : Int) := by omega
    clear hmx hml hM hF e1
    go_enter Try.func4, Try.ntmps4
    go_wp2
    go_ret
    exact ⟨rfl, hb⟩
  have c1' : ¬ (20 : Int) < (ml : Int) := by omega
  have c1d : decide ((20 : Int) < (ml : Int)) = false := by simp; omega
  have hFm := hF (by omega)
  subst e1
  have k13 := fun (W : World) (hw : Below w.heap.size w W) => own_call d h l v u x t n E ⟨La, ml, Lc⟩ N O Y U D m W (hM.below hw) hFm
  have k14 := fun (E1 L1 N1 O1 : SL) (Y1 U1 D1 : Nat → Nat → SL) (W : World) (m1 : ModAt W E1 L1 N1 O1 Y1 U1 D1 m) => encode_call d h l v u x t n E1 L1 N1 O1 Y1 U1 D1 m W m1
  have k15 := fun (W : World) (hw : Below w.heap.size w W) => refEncode_call d h l v u x t n E ⟨La, ml, Lc⟩ N O Y U D m W (hM.below hw) hmx
  obtain ⟨S, eS⟩ : ∃ S, encV d h l v u x t n m = S := ⟨_, rfl⟩
  obtain ⟨Z, eZ⟩ : ∃ Z, checkB d h l v u x t n m = Z := ⟨_, rfl⟩
  simp only [eS, eZ] at k14 k15
  have HC := hidden_ eZ
  have HM := hidden_ (And.intro hM (And.intro hFm (And.intro hmx hml)))
  clear eS eZ hM hFm hF hmx hml
  go_enter Try.func4, Try.ntmps4
  go_wp2_with (first
    | (go_at_call 13; refine (k13 _ hb).mono ?_; rintro e W2 ⟨E1, L1, N1, O1, Y1, U1, D1, rfl, hN1, h2⟩; replace qb := qb.kept h2; replace hb := below_then hb h2; obtain ⟨W3, eW3⟩ : ∃ W, W2.alloc (.cells #[.int .i64 d, .int .i64 h, .int .i64 l, .int .i64 v, .int .i64 u, .int .i64 x, .int .i64 t, .int .i64 n, .slice E1.a E1.n E1.c, .slice L1.a L1.n L1.c, .slice N1.a N1.n N1.c, .slice O1.a O1.n O1.c] 29) = W := ⟨_, rfl⟩; have n3 : Below W2.heap.size W2 W3 := eW3 ▸ below_new (Below.refl _ _) _; have qo : Blk 29 W3 W2.heap.size #[.int .i64 d, .int .i64 h, .int .i64 l, .int .i64 v, .int .i64 u, .int .i64 x, .int .i64 t, .int .i64 n, .slice E1.a E1.n E1.c, .slice L1.a L1.n L1.c, .slice N1.a N1.n N1.c, .slice O1.a O1.n O1.c] := eW3 ▸ Blk.new 29 W2 _; have m1 := (hN1.below n3).at_; replace qb := qb.kept n3; replace hb := below_then hb n3; clear h2 hN1 n3 k13 a0 a1 a2 a3 a4 a5 a6 a7 a8 a9 a10 a11; obtain ⟨a0, a1, a2, a3, a4, a5, a6, a7, a8, a9, a10, a11⟩ := qb.c12; obtain ⟨b0, b1, b2, b3, b4, b5, b6, b7, b8, b9, b10, b11⟩ := qo.c12)
    | (go_at_call 14; refine (k14 E1 L1 N1 O1 Y1 U1 D1 _ m1).mono ?_; rintro e W4 ⟨rfl, h4⟩; replace qb := qb.kept h4; replace qo := qo.kept h4; replace m1 := m1.below h4; replace hb := below_then hb h4; clear h4 k14 a0 a1 a2 a3 a4 a5 a6 a7 a8 a9 a10 a11 b0 b1 b2 b3 b4 b5 b6 b7 b8 b9 b10 b11; obtain ⟨a0, a1, a2, a3, a4, a5, a6, a7, a8, a9, a10, a11⟩ := qb.c12)
    | (go_at_call 15; refine (k15 _ hb).mono ?_; rintro e W5 ⟨rfl, h5⟩; replace qb := qb.kept h5; replace qo := qo.kept h5; replace m1 := m1.below h5; replace hb := below_then hb h5; clear h5 k15 a0 a1 a2 a3 a4 a5 a6 a7 a8 a9 a10 a11))
  have k16 : ∀ W, Below W5.heap.size W5 W → Calls Try.prog 16 #[.agg #[.int .i64 d, .int .i64 h, .int .i64 l, .int .i64 v, .int .i64 u, .int .i64 x, .int .i64 t, .int .i64 n, .slice E1.a E1.n E1.c, .slice L1.a L1.n L1.c, .slice N1.a N1.n N1.c, .slice O1.a O1.n O1.c]] W fun e W' => e = .returned (.int .i64 Z) ∧ Below W.heap.size W W' := fun W hw => by
    have := check_call d h l v u x t n E1 L1 N1 O1 Y1 U1 D1 m W (m1.below hw)
    rw [HC.out] at this
    exact this
  have k17 : ∀ W, Below W5.heap.size W5 W → Calls Try.prog 17 #[.agg #[.int .i64 d, .int .i64 h, .int .i64 l, .int .i64 v, .int .i64 u, .int .i64 x, .int .i64 t, .int .i64 n, .slice E.a E.n E.c, .slice La ml Lc, .slice N.a N.n N.c, .slice O.a O.n O.c]] W fun e W' => e = .returned (.int .i64 Z) ∧ Below W.heap.size W W' := fun W hw => by
    have := refCheck_call d h l v u x t n E ⟨La, ml, Lc⟩ N O Y U D m W (HM.out.1.below (below_then hb hw)) HM.out.2.2.1
    rw [HC.out] at this
    exact this
  have k19 := fun W (hw : Below W5.heap.size W5 W) => flat_call d h l v u x t n E1 L1 N1 O1 Y1 U1 D1 m W (m1.below hw)
  have k20 := fun W (hw : Below W5.heap.size W5 W) => refFlat_call d h l v u x t n E ⟨La, ml, Lc⟩ N O Y U D m W (HM.out.1.below (below_then hb hw)) (fun W' hw' => refCheck_call d h l v u x t n E ⟨La, ml, Lc⟩ N O Y U D m W' (HM.out.1.below (below_then (below_then hb hw) hw')) HM.out.2.2.1)
  have k21 := fun W (hw : Below W5.heap.size W5 W) => sameM_call d h l v u x t n E1 L1 N1 O1 E ⟨La, ml, Lc⟩ N O Y1 U1 D1 Y U D m W (m1.below hw) (HM.out.1.below (below_then hb hw)) (by have := HM.out.2.2.2; omega) (fun i hi => ⟨by have := HM.out.2.1.un i hi; omega, by have := HM.out.2.1.dn i hi; omega⟩)
  refine chk_region (.agg #[.int .i64 d, .int .i64 h, .int .i64 l, .int .i64 v, .int .i64 u, .int .i64 x, .int .i64 t, .int .i64 n, .slice E1.a E1.n E1.c, .slice L1.a L1.n L1.c, .slice N1.a N1.n N1.c, .slice O1.a O1.n O1.c]) (.agg #[.int .i64 d, .int .i64 h, .int .i64 l, .int .i64 v, .int .i64 u, .int .i64 x, .int .i64 t, .int .i64 n, .slice E.a E.n E.c, .slice La ml Lc, .slice N.a N.n N.c, .slice O.a O.n O.c]) Z S (if checkB d h l v u x t n m = 0 then flatV x l m else []) W2.heap.size w.heap.size (by kernel_rfl) rfl ⟨_, rfl, rfl, rfl, rfl, by kernel_rfl⟩ ⟨_, rfl, rfl, rfl, rfl, by kernel_rfl⟩ ⟨_, rfl, rfl, rfl, rfl, by kernel_rfl⟩ ⟨_, rfl, rfl, rfl, rfl, by kernel_rfl⟩ ⟨_, rfl, rfl, rfl, rfl, by kernel_rfl⟩ ⟨_, rfl, rfl, rfl, rfl, by kernel_rfl⟩ ⟨_, rfl, rfl, rfl, rfl, by kernel_rfl⟩ ⟨_, rfl, rfl, rfl, rfl, by kernel_rfl⟩ ⟨_, rfl, rfl, rfl, rfl, by kernel_rfl⟩ ⟨_, rfl, rfl, rfl, rfl, by kernel_rfl⟩ ⟨_, rfl, rfl, rfl, rfl, by kernel_rfl⟩ ⟨_, rfl, rfl, rfl, rfl, by kernel_rfl⟩ ⟨_, rfl, rfl, rfl, rfl, by kernel_rfl⟩ ⟨_, rfl, rfl, rfl, rfl, by kernel_rfl⟩ ⟨_, rfl, rfl, rfl, rfl, by kernel_rfl⟩ ⟨_, rfl, rfl, rfl, rfl, by kernel_rfl⟩ ⟨_, rfl, rfl, rfl, rfl, by kernel_rfl⟩ ⟨_, rfl, rfl, rfl, rfl, by kernel_rfl⟩ ⟨_, rfl, rfl, rfl, rfl, by kernel_rfl⟩ ⟨_, rfl, rfl, rfl, rfl, by kernel_rfl⟩ ⟨_, rfl, rfl, rfl, rfl, by kernel_rfl⟩ ⟨_, rfl, rfl, rfl, rfl, by kernel_rfl⟩ ⟨_, rfl, rfl, rfl, rfl, by kernel_rfl⟩ ⟨_, rfl, rfl, rfl, rfl, by kernel_rfl⟩ ⟨_, rfl, rfl, rfl, rfl, by kernel_rfl⟩ ⟨_, rfl, rfl, rfl, rfl, by kernel_rfl⟩ ⟨_, rfl, rfl, rfl, rfl, by kernel_rfl⟩ ⟨_, rfl, rfl, rfl, rfl, by kernel_rfl⟩ (fun W hw => run_load29 (qo.kept hw)) (fun W hw => run_load29 (L := ⟨La, ml, Lc⟩) (qb.kept hw)) k16 k17 k19 k20 k21 rfl rfl rfl rfl rfl rfl (Nat.le_of_ble_eq_true rfl) ?_
  intro a W6 hs hd hkp v2 hbw
  have ep := frame_puts [24, 25, 26, 27, 28, 29, 30, 31, 32, 33, 34, 35, 36, 37, 38, 39, 40, 41, 42, 43, 44, 45, 46, 47, 48, 49, 50, 2] hs hd (fun s h' => hkp s (ckD_out h'))
  simp only [List.foldl] at ep
  rw [v2] at ep
  clear hs hd hkp v2
  generalize a.tmps.getD 24 undef = g24 at ep
  generalize a.tmps.getD 25 undef = g25 at ep
  generalize a.tmps.getD 26 undef = g26 at ep
  generalize a.tmps.getD 27 undef = g27 at ep
  generalize a.tmps.getD 28 undef = g28 at ep
  generalize a.tmps.getD 29 undef = g29 at ep
  generalize a.tmps.getD 30 undef = g30 at ep
  generalize a.tmps.getD 31 undef = g31 at ep
  generalize a.tmps.getD 32 undef = g32 at ep
  generalize a.tmps.getD 33 undef = g33 at ep
  generalize a.tmps.getD 34 undef = g34 at ep
  generalize a.tmps.getD 35 undef = g35 at ep
  generalize a.tmps.getD 36 undef = g36 at ep
  generalize a.tmps.getD 37 undef = g37 at ep
  generalize a.tmps.getD 38 undef = g38 at ep
  generalize a.tmps.getD 39 undef = g39 at ep
  generalize a.tmps.getD 40 undef = g40 at ep
  generalize a.tmps.getD 41 undef = g41 at ep
  generalize a.tmps.getD 42 undef = g42 at ep
  generalize a.tmps.getD 43 undef = g43 at ep
  generalize a.tmps.getD 44 undef = g44 at ep
  generalize a.tmps.getD 45 undef = g45 at ep
  generalize a.tmps.getD 46 undef = g46 at ep
  generalize a.tmps.getD 47 undef = g47 at ep
  generalize a.tmps.getD 48 undef = g48 at ep
  generalize a.tmps.getD 49 undef = g49 at ep
  generalize a.tmps.getD 50 undef = g50 at ep
  simp only [Act.put, List.setIfInBounds_toArray, List.set_cons_succ, List.set_cons_zero] at ep
  subst ep
  go_wp2
  go_ret
  exact ⟨rfl, below_then hb hbw⟩

end Go.Proofs.Ytjbeloljbjfibaa
