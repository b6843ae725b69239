/- For every adapter of at most 20 layers, every configuration and every text of at most 40000 bytes: an adapter that the program writes is read as it was, and shaped of its weights as it was; a text that is read as an adapter is written as it was, and one that is not is told Malformed, with Rank nought; and the examples of works() hold. -/
import Derived.Test.YtbmlafgolmmekaaRows
import Derived.Test.YtbmlafgolmmekaaView
import Derived.Test.YtbmlafgolmmekaaOwn
import Derived.Test.YtbmlafgolmmekaaCfg
import Derived.Test.YtbmlafgolmmekaaCfgs
import Derived.Test.YtbmlafgolmmekaaCfgRef
import Derived.Test.YtbmlafgolmmekaaHeld
import Derived.Test.YtbmlafgolmmekaaReader
import Derived.Test.YtbmlafgolmmekaaSls
import Derived.Test.YtbmlafgolmmekaaSteps
import Derived.Test.YtbmlafgolmmekaaInv
import Derived.Test.YtbmlafgolmmekaaTyped
import Derived.Test.YtbmlafgolmmekaaAds
import Derived.Test.YtbmlafgolmmekaaRanges
import Derived.Test.YtbmlafgolmmekaaSat
import Derived.Test.YtbmlafgolmmekaaSatRef
import Derived.Test.YtbmlafgolmmekaaAdds
import Derived.Test.YtbmlafgolmmekaaTexts
import Derived.Test.YtbmlafgolmmekaaSums
import Derived.Test.YtbmlafgolmmekaaSeals
import Derived.Test.YtbmlafgolmmekaaOpens
import Derived.Test.YtbmlafgolmmekaaWts
import Derived.Test.YtbmlafgolmmekaaTwos
import Derived.Test.YtbmlafgolmmekaaRdWts
import Derived.Test.YtbmlafgolmmekaaRefWts
import Derived.Test.YtbmlafgolmmekaaPrefix
import Derived.Test.YtbmlafgolmmekaaChange
import Derived.Test.YtbmlafgolmmekaaBack
import Derived.Test.YtbmlafgolmmekaaCheck
import Derived.Test.YtbmlafgolmmekaaPlan
import Derived.Test.YtbmlafgolmmekaaFlat
import Derived.Test.YtbmlafgolmmekaaShape
import Derived.Test.YtbmlafgolmmekaaPush
import Derived.Test.YtbmlafgolmmekaaNext
import Derived.Test.YtbmlafgolmmekaaRefShape
import Derived.Test.YtbmlafgolmmekaaShapes
import Derived.Test.YtbmlafgolmmekaaBody
import Derived.Test.YtbmlafgolmmekaaDecode
import Derived.Test.YtbmlafgolmmekaaRefFlat
import Derived.Test.YtbmlafgolmmekaaRefCheck
import Derived.Test.YtbmlafgolmmekaaRegs
import Derived.Test.YtbmlafgolmmekaaRegEnc
import Derived.Test.YtbmlafgolmmekaaEnc
import Derived.Test.YtbmlafgolmmekaaTrips
import Derived.Test.YtbmlafgolmmekaaDots
import Derived.Test.YtbmlafgolmmekaaDotsRef
import Derived.Test.YtbmlafgolmmekaaFits
import Derived.Test.YtbmlafgolmmekaaMats
import Derived.Test.YtbmlafgolmmekaaMatsRef
import Derived.Test.YtbmlafgolmmekaaApply
import Derived.Test.YtbmlafgolmmekaaWorks
import Derived.Test.YtbmlafgolmmekaaPair
import Derived.Test.YtbmlafgolmmekaaSame
import Derived.Test.YtbmlafgolmmekaaWorks10
import Derived.Test.YtbmlafgolmmekaaBackKit
import Derived.WalkKit
import Derived.ProofKit
import Derived.OpenShut
import Derived.ChangeOld
import Derived.Below
import Derived.WalkLawsBesides
import Derived.ChangeMaps5
import Derived.Lib.SmallJoins
import Derived.Orders
import Derived.SizedLaws
namespace Go.Proofs.Ytbmlafgolmmekaa.graftBack
open Go.ChangeShapes Go.WideShapes Go.ChangeAt Go.RowKit
set_option linter.unusedVariables false
set_option linter.unusedSimpArgs false

theorem own : ownKnob Try.prog.godebug = none := by kernel_rfl
theorem laidOut : laidOutB Try.prog = true := by kernel_rfl


theorem encD_out : ∀ i, i < 9 → ∀ s, encD i = some s → s ∈ [7, 8, 28, 29, 30, 31, 32, 33, 34] := by
  intro i hi s h
  have : ∀ i, i < 9 → (encD i).all (fun d => decide (d ∈ [7, 8, 28, 29, 30, 31, 32, 33, 34])) = true := by decide
  have := this i hi
  rw [h] at this
  simpa using this

theorem rshD_out : ∀ i, i < 16 → ∀ s, rshD i = some s → s ∈ [11, 12, 43, 44, 45, 46, 47, 48, 49, 50, 51, 52, 53, 54, 55] := by
  intro i hi s h
  have : ∀ i, i < 16 → (rshD i).all (fun d => decide (d ∈ [11, 12, 43, 44, 45, 46, 47, 48, 49, 50, 51, 52, 53, 54, 55])) = true := by decide
  have := this i hi
  rw [h] at this
  simpa using this


set_option maxHeartbeats 8000000 in
set_option maxRecDepth 20000 in
theorem walk (R0 S0 : Int) (L0 : SL) (Y0 : Nat → Nat → SL) (m0 : AdV) (cd1 ch1 cl1 cv1 cu1 cx1 ct1 cn1 : Int) (a2 : ByteArray) (w : World) (r0 : (Lit.int .i64 R0).wf = true) (s0 : (Lit.int .i64 S0).wf = true) (w0 : AdAt w L0 Y0 m0) (l0 : m0.ln ≤ 9223372036854775807)  (w2 : a2.size ≤ maxLen) (b0 : m0.ln ≤ 20 → FitsA m0) :
    Calls Try.prog 7 #[.agg #[.int .i64 R0, .int .i64 S0, .slice L0.a L0.n L0.c], .agg #[.int .i64 cd1, .int .i64 ch1, .int .i64 cl1, .int .i64 cv1, .int .i64 cu1, .int .i64 cx1, .int .i64 ct1, .int .i64 cn1], .string a2] w fun e w' => e = .returned (.bool true) ∧ Below w.heap.size w w' := by
  by_cases hl : m0.ln ≤ 20
  · by_cases hsz2 : a2.size ≤ 40000
    · have hF := b0 hl
      have kw := works_call
      have k9 := fun W (hW : Below w.heap.size w W) => (own_call R0 S0 L0 Y0 m0 W (w0.below hW) hF).mono fun e W' ⟨L, Y, he, hn, hb⟩ => (⟨L, Y, he, hn.at_, hb⟩ : ∃ (L : SL) (Y : Nat → Nat → SL), e = Ending.returned (.agg #[.int .i64 R0, .int .i64 S0, .slice L.a L.n L.c]) ∧ AdAt W' L Y m0 ∧ Below W.heap.size W W')
      have k10 := fun W (L : SL) (Y : Nat → Nat → SL) (hA : AdAt W L Y m0) => encode_call R0 S0 cd1 ch1 cl1 cv1 cu1 cx1 ct1 cn1 L Y m0 W hA
      have k15 := fun W (L : SL) (Y : Nat → Nat → SL) (hA : AdAt W L Y m0) => flat_call R0 S0 cd1 ch1 cl1 cv1 cu1 cx1 ct1 cn1 L Y m0 W hA
      have k17 := fun W (L : SL) (Y : Nat → Nat → SL) (hA : AdAt W L Y m0) (hW : Below w.heap.size w W) => sameA_call R0 S0 L L0 Y Y0 m0 W hA (w0.below hW) (by omega)
      have dS := fun W => decode_call cd1 ch1 cl1 cv1 cu1 cx1 ct1 cn1 a2 W (by omega)
      have dB := @dec_back cd1 ch1 cl1 cv1 cu1 cx1 ct1 cn1 a2
      have dN := @dec_no cd1 ch1 cl1 cv1 cu1 cx1 ct1 cn1 a2
      have eS := fun W (L : SL) (Y : Nat → Nat → SL) (hA : AdAt W L Y (decM cd1 ch1 cl1 cv1 cu1 cx1 ct1 cn1 a2)) => encode_call (decR cd1 ch1 cl1 cv1 cu1 cx1 ct1 cn1 a2) (decS cd1 ch1 cl1 cv1 cu1 cx1 ct1 cn1 a2) cd1 ch1 cl1 cv1 cu1 cx1 ct1 cn1 L Y (decM cd1 ch1 cl1 cv1 cu1 cx1 ct1 cn1 a2) W hA
      obtain ⟨Ra, ea1⟩ : ∃ z, decR cd1 ch1 cl1 cv1 cu1 cx1 ct1 cn1 a2 = z := ⟨_, rfl⟩
      obtain ⟨Sa, ea2⟩ : ∃ z, decS cd1 ch1 cl1 cv1 cu1 cx1 ct1 cn1 a2 = z := ⟨_, rfl⟩
      obtain ⟨ma, ea3⟩ : ∃ z, decM cd1 ch1 cl1 cv1 cu1 cx1 ct1 cn1 a2 = z := ⟨_, rfl⟩
      obtain ⟨Ea, ea4⟩ : ∃ z, decE cd1 ch1 cl1 cv1 cu1 cx1 ct1 cn1 a2 = z := ⟨_, rfl⟩
      have dE : decOK cd1 ch1 cl1 cv1 cu1 cx1 ct1 cn1 a2 = true → Ea = 0 := fun h => by rw [← ea4]; unfold decE; rw [if_pos h]
      simp only [ea1, ea2, ea3, ea4] at dS dB dN eS
      have kT := @dec_enc R0 S0 cd1 ch1 cl1 cv1 cu1 cx1 ct1 cn1
      have hwf := flatA_wf w0
      have agree := shape_flat m0
      have hn : L0.n = m0.ln := w0.len
      obtain ⟨La, ml, Lc, eL⟩ : ∃ a n c, L0 = ⟨a, n, c⟩ := ⟨L0.a, L0.n, L0.c, rfl⟩
      subst eL
      have hml : ¬ (20 : Int) < (ml : Int) := by have hn' : ml = m0.ln := hn; omega
      have hmx : ml ≤ 20 := by have hn' : ml = m0.ln := hn; omega
      have hs2 : ¬ (40000 : Int) < (a2.size : Int) := by omega
      have hs2d : decide ((40000 : Int) < (a2.size : Int)) = false := decide_eq_false hs2
      have hb := below_new (below_new (Below.refl w.heap.size w) (.cells #[.int .i64 R0, .int .i64 S0, .slice La ml Lc] 24)) (.cells #[.int .i64 cd1, .int .i64 ch1, .int .i64 cl1, .int .i64 cv1, .int .i64 cu1, .int .i64 cx1, .int .i64 ct1, .int .i64 cn1] 26)
      have qa : Blk 24 ((w.alloc (.cells #[.int .i64 R0, .int .i64 S0, .slice La ml Lc] 24)).alloc (.cells #[.int .i64 cd1, .int .i64 ch1, .int .i64 cl1, .int .i64 cv1, .int .i64 cu1, .int .i64 cx1, .int .i64 ct1, .int .i64 cn1] 26)) w.heap.size #[.int .i64 R0, .int .i64 S0, .slice La ml Lc] := (Blk.new 24 w _).kept (below_new (Below.refl _ _) _)
      have qc : Blk 26 ((w.alloc (.cells #[.int .i64 R0, .int .i64 S0, .slice La ml Lc] 24)).alloc (.cells #[.int .i64 cd1, .int .i64 ch1, .int .i64 cl1, .int .i64 cv1, .int .i64 cu1, .int .i64 cx1, .int .i64 ct1, .int .i64 cn1] 26)) (w.heap.size + 1) #[.int .i64 cd1, .int .i64 ch1, .int .i64 cl1, .int .i64 cv1, .int .i64 cu1, .int .i64 cx1, .int .i64 ct1, .int .i64 cn1] := Blk.new_at 26 (w.alloc _) _ _ (by simp)
      have HW := hidden_ w0
      clear hn w0 b0 hl ea1 ea2 ea3 ea4
      obtain ⟨a0', a1', a2'⟩ := qa.c3
      obtain ⟨TT, eTT⟩ : ∃ z, encV R0 S0 cd1 ch1 cl1 cv1 cu1 cx1 ct1 cn1 m0 = z := ⟨_, rfl⟩
      by_cases hz0 : checkA R0 S0 cd1 ch1 cl1 cv1 cu1 cx1 ct1 cn1 m0 = 0
      · obtain ⟨ok, hln, hlen⟩ := checked hz0
        have ff := (flat_few hz0 (4 * m0.ln) (Nat.le_refl _)).1
        have nu := numsA_of ok
        have n1 := nu.hl
        have n2 := nu.hN
        have n3 := nu.hT
        have n4 := nu.hT'
        obtain ⟨zs, ezs⟩ : ∃ z, flatA m0 = z := ⟨_, rfl⟩
        have el : m0.ln = cl1.toNat := by omega
        have ff' : zs.length = 4 * m0.ln * (R0 * cd1).toNat := by rw [← ezs]; exact ff
        have lz : (zs.length : Int) = cl1 * 4 * (R0 * cd1) := by rw [ff', el, ← n4]; omega
        have ag := agree (R0 * cd1).toNat hlen
        rw [ezs, el] at ag
        rw [ezs] at hwf
        have eT : TT = encG R0 S0 zs := by rw [← eTT]; unfold encV; rw [if_pos hz0, ezs]
        obtain ⟨-, t1, t2, t3, t4⟩ := kT ok zs lz hwf
        have tsz : TT.size ≤ 9223372036854775805 := by rw [eT, enc_size]; omega
        have kT := fun W => decode_call cd1 ch1 cl1 cv1 cu1 cx1 ct1 cn1 TT W tsz
        rw [← eT] at t1 t2 t3 t4
        simp only [t1, t2, t3, t4] at kT
        have so : shpOK R0 S0 cd1 ch1 cl1 cv1 cu1 cx1 ct1 cn1 zs.length = true := by unfold shpOK; rw [ok]; simp [lz]
        have se : shpE R0 S0 cd1 ch1 cl1 cv1 cu1 cx1 ct1 cn1 zs.length = 0 := by unfold shpE; rw [if_pos ok, if_pos lz]
        have sm : shpM R0 S0 cd1 ch1 cl1 cv1 cu1 cx1 ct1 cn1 zs = shapeV cl1.toNat (R0 * cd1).toNat zs := by unfold shpM; rw [if_pos so]
        have k20 := fun W (s : SL) (h : IsS W s zs) => shape_at R0 S0 cd1 ch1 cl1 cv1 cu1 cx1 ct1 cn1 s zs W h
        simp only [so, se, sm, shpI, if_true] at k20
        replace kT := fun W => (kT W).mono fun e W' ⟨L, Y, he, hn, hb⟩ => (⟨L, Y, he, hn.congr ag, hb⟩ : ∃ (L : SL) (Y : Nat → Nat → SL), e = Ending.returned (.tuple #[.agg #[.int .i64 R0, .int .i64 S0, .slice L.a L.n L.c], .int .i64 0]) ∧ NewA W.heap.size W' L Y m0 ∧ Below W.heap.size W W')
        replace k20 := fun W (s : SL) (h : IsS W s zs) => (k20 W s h).mono fun e W' ⟨L, Y, he, hn, hb⟩ => (⟨L, Y, he, hn.congr ag, hb⟩ : ∃ (L : SL) (Y : Nat → Nat → SL), e = Ending.returned (.tuple #[.agg #[.int .i64 R0, .int .i64 S0, .slice L.a L.n L.c], .int .i64 0]) ∧ AdAt W' L Y m0 ∧ Below W.heap.size W W')
        simp only [hz0, if_true, ezs] at k15
        simp only [hz0, eTT] at k10
        obtain ⟨Z, hz⟩ : ∃ Z : Int, Z = 0 := ⟨0, rfl⟩
        rw [← hz] at k10
        clear ok hln hlen ff nu n1 n2 n3 n4 ezs el ff' lz ag hwf eT t1 t2 t3 t4 tsz so se sm eTT hz0 agree
        cases hd : decOK cd1 ch1 cl1 cv1 cu1 cx1 ct1 cn1 a2 with
        | true =>
          obtain ⟨ro, ck, ev⟩ := dB hd
          have E0 := dE hd
          subst E0
          simp only [ck, ev] at eS
          have seq : (a2.toList == a2.toList) = true := text_same rfl
          clear dB dN dE ro ck ev hd
          go_enter Try.func7, Try.ntmps7
          go_wp2_with (first | (go_at_call 25; refine (kw _).mono ?_; rintro e W1 ⟨rfl, h1⟩; replace hb := below_then hb h1; replace qa := qa.kept h1; replace qc := qc.kept h1; clear h1 kw a0' a1' a2'; obtain ⟨a0', a1', a2'⟩ := qa.c3))
          refine enc_region R0 S0 Z TT (.agg #[.int .i64 R0, .int .i64 S0, .slice La ml Lc]) (.agg #[.int .i64 cd1, .int .i64 ch1, .int .i64 cl1, .int .i64 cv1, .int .i64 cu1, .int .i64 cx1, .int .i64 ct1, .int .i64 cn1]) m0 (by kernel_rfl) rfl ⟨_, rfl, rfl, rfl, rfl, by kernel_rfl⟩ ⟨_, rfl, rfl, rfl, rfl, by kernel_rfl⟩ ⟨_, rfl, rfl, rfl, rfl, by kernel_rfl⟩ ⟨_, rfl, rfl, rfl, rfl, by kernel_rfl⟩ ⟨_, rfl, rfl, rfl, rfl, by kernel_rfl⟩ ⟨_, rfl, rfl, rfl, rfl, by kernel_rfl⟩ ⟨_, rfl, rfl, rfl, rfl, by kernel_rfl⟩ ⟨_, rfl, rfl, rfl, rfl, by kernel_rfl⟩ ⟨_, rfl, rfl, rfl, rfl, by kernel_rfl⟩ w.heap.size (w.heap.size + 1) rfl rfl (fun W hW => run_load24 (L := ⟨La, ml, Lc⟩) (qa.kept hW)) (fun W hW => run_load26 (qc.kept hW)) (fun W hW => k9 W (below_then hb hW)) (fun W L Y hW hA => k10 W L Y hA) (Nat.le_of_ble_eq_true rfl) ?_
          intro a W2 hs hd hkp hb1 hv
          have e7 : a.tmps.getD 7 undef = .string TT := hv 7 7 (by decide) rfl
          have e8 : a.tmps.getD 8 undef = .int .i64 Z := hv 8 8 (by decide) rfl
          have ep := frame_puts [7, 8, 28, 29, 30, 31, 32, 33, 34] hs hd (fun s h => hkp s (by intro i hi e; exact h (encD_out i hi s e)))
          simp only [List.foldl] at ep
          rw [e7] at ep
          rw [e8] at ep
          clear hs hd hkp hv e7 e8
          generalize a.tmps.getD 28 undef = g28 at ep
          generalize a.tmps.getD 29 undef = g29 at ep
          generalize a.tmps.getD 30 undef = g30 at ep
          generalize a.tmps.getD 31 undef = g31 at ep
          generalize a.tmps.getD 32 undef = g32 at ep
          generalize a.tmps.getD 33 undef = g33 at ep
          generalize a.tmps.getD 34 undef = g34 at ep
          simp only [Act.put, List.setIfInBounds_toArray, List.set_cons_succ, List.set_cons_zero] at ep
          subst ep
          replace hb := below_then hb hb1
          replace qa := qa.kept hb1
          replace qc := qc.kept hb1
          clear hb1 a0' a1' a2'
          obtain ⟨c0, c1, c2, c3, c4, c5, c6, c7⟩ := qc.cfg
          obtain ⟨a0', a1', a2'⟩ := qa.c3
          subst hz
          go_wp2_with (first | (go_at_call 18; refine (kT _).mono ?_; rintro e W3 ⟨L3, Y3, rfl, hN3, h1⟩; have b2 := below_new (Below.refl W3.heap.size W3) (.cells #[.int .i64 R0, .int .i64 S0, .slice L3.a L3.n L3.c] 24); have q3 : Blk 24 (W3.alloc (.cells #[.int .i64 R0, .int .i64 S0, .slice L3.a L3.n L3.c] 24)) W3.heap.size #[.int .i64 R0, .int .i64 S0, .slice L3.a L3.n L3.c] := Blk.new 24 W3 _; obtain ⟨V3, eV3⟩ : ∃ W, W3.alloc (.cells #[.int .i64 R0, .int .i64 S0, .slice L3.a L3.n L3.c] 24) = W := ⟨_, rfl⟩; rw [eV3] at b2 q3; have ad3 := (hN3.below b2).at_; have b1 := below_then h1 b2; replace hb := below_then hb b1; replace qc := qc.kept b1; replace qa := qa.kept b1; clear h1 b1 b2 hN3 kT c0 c1 c2 c3 c4 c5 c6 c7 a0' a1' a2'))
          refine rsh_region w.heap.size R0 S0 R0 S0 0 (.agg #[.int .i64 R0, .int .i64 S0, .slice La ml Lc]) (.agg #[.int .i64 cd1, .int .i64 ch1, .int .i64 cl1, .int .i64 cv1, .int .i64 cu1, .int .i64 cx1, .int .i64 ct1, .int .i64 cn1]) zs m0 m0 (by kernel_rfl) rfl ⟨_, rfl, rfl, rfl, rfl, by kernel_rfl⟩ ⟨_, rfl, rfl, rfl, rfl, by kernel_rfl⟩ ⟨_, rfl, rfl, rfl, rfl, by kernel_rfl⟩ ⟨_, rfl, rfl, rfl, rfl, by kernel_rfl⟩ ⟨_, rfl, rfl, rfl, rfl, by kernel_rfl⟩ ⟨_, rfl, rfl, rfl, rfl, by kernel_rfl⟩ ⟨_, rfl, rfl, rfl, rfl, by kernel_rfl⟩ ⟨_, rfl, rfl, rfl, rfl, by kernel_rfl⟩ ⟨_, rfl, rfl, rfl, rfl, by kernel_rfl⟩ ⟨_, rfl, rfl, rfl, rfl, by kernel_rfl⟩ ⟨_, rfl, rfl, rfl, rfl, by kernel_rfl⟩ ⟨_, rfl, rfl, rfl, rfl, by kernel_rfl⟩ ⟨_, rfl, rfl, rfl, rfl, by kernel_rfl⟩ ⟨_, rfl, rfl, rfl, rfl, by kernel_rfl⟩ ⟨_, rfl, rfl, rfl, rfl, by kernel_rfl⟩ ⟨_, rfl, rfl, rfl, rfl, by kernel_rfl⟩ (w.heap.size + 1) rfl rfl (fun W hW => (qa.kept hW).cell 0 rfl) (fun W hW => (qa.kept hW).cell 1 rfl) (fun W hW => run_load24 (L := ⟨La, ml, Lc⟩) (qa.kept hW)) (fun W hW => run_load26 (qc.kept hW)) (fun W hW => k9 W (below_then hb hW)) (fun W L Y hW hA => k15 W L Y hA) (fun W s hW hA => k20 W s hA) (Nat.le_of_ble_eq_true rfl) ?_
          intro a W4 hs hd hkp hb1 hv ⟨G, eG, hGB, L4, Y4, q4, ad4⟩
          have e12 : a.tmps.getD 12 undef = .int .i64 0 := hv 15 12 (by decide) rfl
          have ep := frame_puts [11, 12, 43, 44, 45, 46, 47, 48, 49, 50, 51, 52, 53, 54, 55] hs hd (fun s h => hkp s (by intro i hi e; exact h (rshD_out i hi s e)))
          simp only [List.foldl] at ep
          rw [eG] at ep
          rw [e12] at ep
          clear hs hd hkp hv eG e12
          generalize a.tmps.getD 43 undef = g43 at ep
          generalize a.tmps.getD 44 undef = g44 at ep
          generalize a.tmps.getD 45 undef = g45 at ep
          generalize a.tmps.getD 46 undef = g46 at ep
          generalize a.tmps.getD 47 undef = g47 at ep
          generalize a.tmps.getD 48 undef = g48 at ep
          generalize a.tmps.getD 49 undef = g49 at ep
          generalize a.tmps.getD 50 undef = g50 at ep
          generalize a.tmps.getD 51 undef = g51 at ep
          generalize a.tmps.getD 52 undef = g52 at ep
          generalize a.tmps.getD 53 undef = g53 at ep
          generalize a.tmps.getD 54 undef = g54 at ep
          generalize a.tmps.getD 55 undef = g55 at ep
          simp only [Act.put, List.setIfInBounds_toArray, List.set_cons_succ, List.set_cons_zero] at ep
          subst ep
          replace hb := below_then hb hb1
          replace qa := qa.kept hb1
          replace qc := qc.kept hb1
          replace q3 := q3.kept hb1
          replace ad3 := ad3.below hb1
          clear hb1 k9 k10 k15 k20 eV3
          obtain ⟨c0, c1, c2, c3, c4, c5, c6, c7⟩ := qc.cfg
          obtain ⟨a0', a1', a2'⟩ := qa.c3
          obtain ⟨x0, x1, x2⟩ := q3.c3
          obtain ⟨y0, y1, y2⟩ := q4.c3
          go_wp2_with (first
            | (go_at_call 17; refine (k17 _ L3 Y3 ad3 hb).mono ?_; rintro e W5 ⟨rfl, h1⟩; replace hb := below_then hb h1; replace qc := qc.kept h1; replace qa := qa.kept h1; replace q4 := q4.kept h1; replace ad4 := ad4.below h1; clear h1 ad3 c0 c1 c2 c3 c4 c5 c6 c7 a0' a1' a2' x0 x1 x2 y0 y1 y2; obtain ⟨c0, c1, c2, c3, c4, c5, c6, c7⟩ := qc.cfg; obtain ⟨a0', a1', a2'⟩ := qa.c3; obtain ⟨y0, y1, y2⟩ := q4.c3)
            | (go_at_call 17; refine (k17 _ L4 Y4 ad4 hb).mono ?_; rintro e W6 ⟨rfl, h1⟩; replace hb := below_then hb h1; replace qc := qc.kept h1; clear h1 ad4 c0 c1 c2 c3 c4 c5 c6 c7 a0' a1' a2' y0 y1 y2; obtain ⟨c0, c1, c2, c3, c4, c5, c6, c7⟩ := qc.cfg)
            | (go_at_call 18; refine (dS _).mono ?_; rintro e W8 ⟨L8, Y8, rfl, hN8, h1⟩; have b2 := below_new (Below.refl W8.heap.size W8) (.cells #[.int .i64 Ra, .int .i64 Sa, .slice L8.a L8.n L8.c] 24); have q8 : Blk 24 (W8.alloc (.cells #[.int .i64 Ra, .int .i64 Sa, .slice L8.a L8.n L8.c] 24)) W8.heap.size #[.int .i64 Ra, .int .i64 Sa, .slice L8.a L8.n L8.c] := Blk.new 24 W8 _; obtain ⟨V8, eV8⟩ : ∃ W, W8.alloc (.cells #[.int .i64 Ra, .int .i64 Sa, .slice L8.a L8.n L8.c] 24) = W := ⟨_, rfl⟩; rw [eV8] at b2 q8; have ad8 := (hN8.below b2).at_; have b1 := below_then h1 b2; replace hb := below_then hb b1; replace qc := qc.kept b1; clear h1 b1 b2 dS c0 c1 c2 c3 c4 c5 c6 c7; obtain ⟨c0, c1, c2, c3, c4, c5, c6, c7⟩ := qc.cfg; obtain ⟨e0, e1, e2⟩ := q8.c3)
            | (go_at_call 10; refine (eS _ L8 Y8 ad8).mono ?_; rintro e W9 ⟨rfl, h1⟩; replace hb := below_then hb h1; clear h1 eS))
          go_ret
          exact ⟨rfl, hb⟩
        | false =>
          obtain ⟨r0, E1⟩ := dN hd
          subst E1
          subst r0
          clear dB dN dE hd eS
          go_enter Try.func7, Try.ntmps7
          go_wp2_with (first | (go_at_call 25; refine (kw _).mono ?_; rintro e W1 ⟨rfl, h1⟩; replace hb := below_then hb h1; replace qa := qa.kept h1; replace qc := qc.kept h1; clear h1 kw a0' a1' a2'; obtain ⟨a0', a1', a2'⟩ := qa.c3))
          refine enc_region R0 S0 Z TT (.agg #[.int .i64 R0, .int .i64 S0, .slice La ml Lc]) (.agg #[.int .i64 cd1, .int .i64 ch1, .int .i64 cl1, .int .i64 cv1, .int .i64 cu1, .int .i64 cx1, .int .i64 ct1, .int .i64 cn1]) m0 (by kernel_rfl) rfl ⟨_, rfl, rfl, rfl, rfl, by kernel_rfl⟩ ⟨_, rfl, rfl, rfl, rfl, by kernel_rfl⟩ ⟨_, rfl, rfl, rfl, rfl, by kernel_rfl⟩ ⟨_, rfl, rfl, rfl, rfl, by kernel_rfl⟩ ⟨_, rfl, rfl, rfl, rfl, by kernel_rfl⟩ ⟨_, rfl, rfl, rfl, rfl, by kernel_rfl⟩ ⟨_, rfl, rfl, rfl, rfl, by kernel_rfl⟩ ⟨_, rfl, rfl, rfl, rfl, by kernel_rfl⟩ ⟨_, rfl, rfl, rfl, rfl, by kernel_rfl⟩ w.heap.size (w.heap.size + 1) rfl rfl (fun W hW => run_load24 (L := ⟨La, ml, Lc⟩) (qa.kept hW)) (fun W hW => run_load26 (qc.kept hW)) (fun W hW => k9 W (below_then hb hW)) (fun W L Y hW hA => k10 W L Y hA) (Nat.le_of_ble_eq_true rfl) ?_
          intro a W2 hs hd hkp hb1 hv
          have e7 : a.tmps.getD 7 undef = .string TT := hv 7 7 (by decide) rfl
          have e8 : a.tmps.getD 8 undef = .int .i64 Z := hv 8 8 (by decide) rfl
          have ep := frame_puts [7, 8, 28, 29, 30, 31, 32, 33, 34] hs hd (fun s h => hkp s (by intro i hi e; exact h (encD_out i hi s e)))
          simp only [List.foldl] at ep
          rw [e7] at ep
          rw [e8] at ep
          clear hs hd hkp hv e7 e8
          generalize a.tmps.getD 28 undef = g28 at ep
          generalize a.tmps.getD 29 undef = g29 at ep
          generalize a.tmps.getD 30 undef = g30 at ep
          generalize a.tmps.getD 31 undef = g31 at ep
          generalize a.tmps.getD 32 undef = g32 at ep
          generalize a.tmps.getD 33 undef = g33 at ep
          generalize a.tmps.getD 34 undef = g34 at ep
          simp only [Act.put, List.setIfInBounds_toArray, List.set_cons_succ, List.set_cons_zero] at ep
          subst ep
          replace hb := below_then hb hb1
          replace qa := qa.kept hb1
          replace qc := qc.kept hb1
          clear hb1 a0' a1' a2'
          obtain ⟨c0, c1, c2, c3, c4, c5, c6, c7⟩ := qc.cfg
          obtain ⟨a0', a1', a2'⟩ := qa.c3
          subst hz
          go_wp2_with (first | (go_at_call 18; refine (kT _).mono ?_; rintro e W3 ⟨L3, Y3, rfl, hN3, h1⟩; have b2 := below_new (Below.refl W3.heap.size W3) (.cells #[.int .i64 R0, .int .i64 S0, .slice L3.a L3.n L3.c] 24); have q3 : Blk 24 (W3.alloc (.cells #[.int .i64 R0, .int .i64 S0, .slice L3.a L3.n L3.c] 24)) W3.heap.size #[.int .i64 R0, .int .i64 S0, .slice L3.a L3.n L3.c] := Blk.new 24 W3 _; obtain ⟨V3, eV3⟩ : ∃ W, W3.alloc (.cells #[.int .i64 R0, .int .i64 S0, .slice L3.a L3.n L3.c] 24) = W := ⟨_, rfl⟩; rw [eV3] at b2 q3; have ad3 := (hN3.below b2).at_; have b1 := below_then h1 b2; replace hb := below_then hb b1; replace qc := qc.kept b1; replace qa := qa.kept b1; clear h1 b1 b2 hN3 kT c0 c1 c2 c3 c4 c5 c6 c7 a0' a1' a2'))
          refine rsh_region w.heap.size R0 S0 R0 S0 0 (.agg #[.int .i64 R0, .int .i64 S0, .slice La ml Lc]) (.agg #[.int .i64 cd1, .int .i64 ch1, .int .i64 cl1, .int .i64 cv1, .int .i64 cu1, .int .i64 cx1, .int .i64 ct1, .int .i64 cn1]) zs m0 m0 (by kernel_rfl) rfl ⟨_, rfl, rfl, rfl, rfl, by kernel_rfl⟩ ⟨_, rfl, rfl, rfl, rfl, by kernel_rfl⟩ ⟨_, rfl, rfl, rfl, rfl, by kernel_rfl⟩ ⟨_, rfl, rfl, rfl, rfl, by kernel_rfl⟩ ⟨_, rfl, rfl, rfl, rfl, by kernel_rfl⟩ ⟨_, rfl, rfl, rfl, rfl, by kernel_rfl⟩ ⟨_, rfl, rfl, rfl, rfl, by kernel_rfl⟩ ⟨_, rfl, rfl, rfl, rfl, by kernel_rfl⟩ ⟨_, rfl, rfl, rfl, rfl, by kernel_rfl⟩ ⟨_, rfl, rfl, rfl, rfl, by kernel_rfl⟩ ⟨_, rfl, rfl, rfl, rfl, by kernel_rfl⟩ ⟨_, rfl, rfl, rfl, rfl, by kernel_rfl⟩ ⟨_, rfl, rfl, rfl, rfl, by kernel_rfl⟩ ⟨_, rfl, rfl, rfl, rfl, by kernel_rfl⟩ ⟨_, rfl, rfl, rfl, rfl, by kernel_rfl⟩ ⟨_, rfl, rfl, rfl, rfl, by kernel_rfl⟩ (w.heap.size + 1) rfl rfl (fun W hW => (qa.kept hW).cell 0 rfl) (fun W hW => (qa.kept hW).cell 1 rfl) (fun W hW => run_load24 (L := ⟨La, ml, Lc⟩) (qa.kept hW)) (fun W hW => run_load26 (qc.kept hW)) (fun W hW => k9 W (below_then hb hW)) (fun W L Y hW hA => k15 W L Y hA) (fun W s hW hA => k20 W s hA) (Nat.le_of_ble_eq_true rfl) ?_
          intro a W4 hs hd hkp hb1 hv ⟨G, eG, hGB, L4, Y4, q4, ad4⟩
          have e12 : a.tmps.getD 12 undef = .int .i64 0 := hv 15 12 (by decide) rfl
          have ep := frame_puts [11, 12, 43, 44, 45, 46, 47, 48, 49, 50, 51, 52, 53, 54, 55] hs hd (fun s h => hkp s (by intro i hi e; exact h (rshD_out i hi s e)))
          simp only [List.foldl] at ep
          rw [eG] at ep
          rw [e12] at ep
          clear hs hd hkp hv eG e12
          generalize a.tmps.getD 43 undef = g43 at ep
          generalize a.tmps.getD 44 undef = g44 at ep
          generalize a.tmps.getD 45 undef = g45 at ep
          generalize a.tmps.getD 46 undef = g46 at ep
          generalize a.tmps.getD 47 undef = g47 at ep
          generalize a.tmps.getD 48 undef = g48 at ep
          generalize a.tmps.getD 49 undef = g49 at ep
          generalize a.tmps.getD 50 undef = g50 at ep
          generalize a.tmps.getD 51 undef = g51 at ep
          generalize a.tmps.getD 52 undef = g52 at ep
          generalize a.tmps.getD 53 undef = g53 at ep
          generalize a.tmps.getD 54 undef = g54 at ep
          generalize a.tmps.getD 55 undef = g55 at ep
          simp only [Act.put, List.setIfInBounds_toArray, List.set_cons_succ, List.set_cons_zero] at ep
          subst ep
          replace hb := below_then hb hb1
          replace qa := qa.kept hb1
          replace qc := qc.kept hb1
          replace q3 := q3.kept hb1
          replace ad3 := ad3.below hb1
          clear hb1 k9 k10 k15 k20 eV3
          obtain ⟨c0, c1, c2, c3, c4, c5, c6, c7⟩ := qc.cfg
          obtain ⟨a0', a1', a2'⟩ := qa.c3
          obtain ⟨x0, x1, x2⟩ := q3.c3
          obtain ⟨y0, y1, y2⟩ := q4.c3
          go_wp2_with (first
            | (go_at_call 17; refine (k17 _ L3 Y3 ad3 hb).mono ?_; rintro e W5 ⟨rfl, h1⟩; replace hb := below_then hb h1; replace qc := qc.kept h1; replace qa := qa.kept h1; replace q4 := q4.kept h1; replace ad4 := ad4.below h1; clear h1 ad3 c0 c1 c2 c3 c4 c5 c6 c7 a0' a1' a2' x0 x1 x2 y0 y1 y2; obtain ⟨c0, c1, c2, c3, c4, c5, c6, c7⟩ := qc.cfg; obtain ⟨a0', a1', a2'⟩ := qa.c3; obtain ⟨y0, y1, y2⟩ := q4.c3)
            | (go_at_call 17; refine (k17 _ L4 Y4 ad4 hb).mono ?_; rintro e W6 ⟨rfl, h1⟩; replace hb := below_then hb h1; replace qc := qc.kept h1; clear h1 ad4 c0 c1 c2 c3 c4 c5 c6 c7 a0' a1' a2' y0 y1 y2; obtain ⟨c0, c1, c2, c3, c4, c5, c6, c7⟩ := qc.cfg)
            | (go_at_call 18; refine (dS _).mono ?_; rintro e W8 ⟨L8, Y8, rfl, hN8, h1⟩; have b2 := below_new (Below.refl W8.heap.size W8) (.cells #[.int .i64 0, .int .i64 Sa, .slice L8.a L8.n L8.c] 24); have q8 : Blk 24 (W8.alloc (.cells #[.int .i64 0, .int .i64 Sa, .slice L8.a L8.n L8.c] 24)) W8.heap.size #[.int .i64 0, .int .i64 Sa, .slice L8.a L8.n L8.c] := Blk.new 24 W8 _; obtain ⟨V8, eV8⟩ : ∃ W, W8.alloc (.cells #[.int .i64 0, .int .i64 Sa, .slice L8.a L8.n L8.c] 24) = W := ⟨_, rfl⟩; rw [eV8] at b2 q8; have ad8 := (hN8.below b2).at_; have b1 := below_then h1 b2; replace hb := below_then hb b1; replace qc := qc.kept b1; clear h1 b1 b2 dS c0 c1 c2 c3 c4 c5 c6 c7; obtain ⟨c0, c1, c2, c3, c4, c5, c6, c7⟩ := qc.cfg; obtain ⟨e0, e1, e2⟩ := q8.c3))
          go_ret
          exact ⟨rfl, hb⟩
      · obtain ⟨Z, eZ⟩ : ∃ z, checkA R0 S0 cd1 ch1 cl1 cv1 cu1 cx1 ct1 cn1 m0 = z := ⟨_, rfl⟩
        rw [eZ] at hz0
        have z1 : (Z == 0) = false := by simp [hz0]
        simp only [eZ, eTT] at k10
        clear k15 k17 kT hwf agree eTT eZ hz0
        cases hd : decOK cd1 ch1 cl1 cv1 cu1 cx1 ct1 cn1 a2 with
        | true =>
          obtain ⟨ro, ck, ev⟩ := dB hd
          have E0 := dE hd
          subst E0
          simp only [ck, ev] at eS
          have seq : (a2.toList == a2.toList) = true := text_same rfl
          clear dB dN dE ro ck ev hd
          go_enter Try.func7, Try.ntmps7
          go_wp2_with (first | (go_at_call 25; refine (kw _).mono ?_; rintro e W1 ⟨rfl, h1⟩; replace hb := below_then hb h1; replace qa := qa.kept h1; replace qc := qc.kept h1; clear h1 kw a0' a1' a2'; obtain ⟨a0', a1', a2'⟩ := qa.c3))
          refine enc_region R0 S0 Z TT (.agg #[.int .i64 R0, .int .i64 S0, .slice La ml Lc]) (.agg #[.int .i64 cd1, .int .i64 ch1, .int .i64 cl1, .int .i64 cv1, .int .i64 cu1, .int .i64 cx1, .int .i64 ct1, .int .i64 cn1]) m0 (by kernel_rfl) rfl ⟨_, rfl, rfl, rfl, rfl, by kernel_rfl⟩ ⟨_, rfl, rfl, rfl, rfl, by kernel_rfl⟩ ⟨_, rfl, rfl, rfl, rfl, by kernel_rfl⟩ ⟨_, rfl, rfl, rfl, rfl, by kernel_rfl⟩ ⟨_, rfl, rfl, rfl, rfl, by kernel_rfl⟩ ⟨_, rfl, rfl, rfl, rfl, by kernel_rfl⟩ ⟨_, rfl, rfl, rfl, rfl, by kernel_rfl⟩ ⟨_, rfl, rfl, rfl, rfl, by kernel_rfl⟩ ⟨_, rfl, rfl, rfl, rfl, by kernel_rfl⟩ w.heap.size (w.heap.size + 1) rfl rfl (fun W hW => run_load24 (L := ⟨La, ml, Lc⟩) (qa.kept hW)) (fun W hW => run_load26 (qc.kept hW)) (fun W hW => k9 W (below_then hb hW)) (fun W L Y hW hA => k10 W L Y hA) (Nat.le_of_ble_eq_true rfl) ?_
          intro a W2 hs hd hkp hb1 hv
          have e7 : a.tmps.getD 7 undef = .string TT := hv 7 7 (by decide) rfl
          have e8 : a.tmps.getD 8 undef = .int .i64 Z := hv 8 8 (by decide) rfl
          have ep := frame_puts [7, 8, 28, 29, 30, 31, 32, 33, 34] hs hd (fun s h => hkp s (by intro i hi e; exact h (encD_out i hi s e)))
          simp only [List.foldl] at ep
          rw [e7] at ep
          rw [e8] at ep
          clear hs hd hkp hv e7 e8
          generalize a.tmps.getD 28 undef = g28 at ep
          generalize a.tmps.getD 29 undef = g29 at ep
          generalize a.tmps.getD 30 undef = g30 at ep
          generalize a.tmps.getD 31 undef = g31 at ep
          generalize a.tmps.getD 32 undef = g32 at ep
          generalize a.tmps.getD 33 undef = g33 at ep
          generalize a.tmps.getD 34 undef = g34 at ep
          simp only [Act.put, List.setIfInBounds_toArray, List.set_cons_succ, List.set_cons_zero] at ep
          subst ep
          replace hb := below_then hb hb1
          replace qa := qa.kept hb1
          replace qc := qc.kept hb1
          clear hb1 a0' a1' a2'
          obtain ⟨c0, c1, c2, c3, c4, c5, c6, c7⟩ := qc.cfg
          obtain ⟨a0', a1', a2'⟩ := qa.c3
          go_wp2_with (first
            | (go_at_call 18; refine (dS _).mono ?_; rintro e W8 ⟨L8, Y8, rfl, hN8, h1⟩; have b2 := below_new (Below.refl W8.heap.size W8) (.cells #[.int .i64 Ra, .int .i64 Sa, .slice L8.a L8.n L8.c] 24); have q8 : Blk 24 (W8.alloc (.cells #[.int .i64 Ra, .int .i64 Sa, .slice L8.a L8.n L8.c] 24)) W8.heap.size #[.int .i64 Ra, .int .i64 Sa, .slice L8.a L8.n L8.c] := Blk.new 24 W8 _; obtain ⟨V8, eV8⟩ : ∃ W, W8.alloc (.cells #[.int .i64 Ra, .int .i64 Sa, .slice L8.a L8.n L8.c] 24) = W := ⟨_, rfl⟩; rw [eV8] at b2 q8; have ad8 := (hN8.below b2).at_; have b1 := below_then h1 b2; replace hb := below_then hb b1; replace qc := qc.kept b1; clear h1 b1 b2 dS c0 c1 c2 c3 c4 c5 c6 c7; obtain ⟨c0, c1, c2, c3, c4, c5, c6, c7⟩ := qc.cfg; obtain ⟨e0, e1, e2⟩ := q8.c3)
            | (go_at_call 10; refine (eS _ L8 Y8 ad8).mono ?_; rintro e W9 ⟨rfl, h1⟩; replace hb := below_then hb h1; clear h1 eS))
          go_ret
          exact ⟨rfl, hb⟩
        | false =>
          obtain ⟨r0, E1⟩ := dN hd
          subst E1
          subst r0
          clear dB dN dE hd eS
          go_enter Try.func7, Try.ntmps7
          go_wp2_with (first | (go_at_call 25; refine (kw _).mono ?_; rintro e W1 ⟨rfl, h1⟩; replace hb := below_then hb h1; replace qa := qa.kept h1; replace qc := qc.kept h1; clear h1 kw a0' a1' a2'; obtain ⟨a0', a1', a2'⟩ := qa.c3))
          refine enc_region R0 S0 Z TT (.agg #[.int .i64 R0, .int .i64 S0, .slice La ml Lc]) (.agg #[.int .i64 cd1, .int .i64 ch1, .int .i64 cl1, .int .i64 cv1, .int .i64 cu1, .int .i64 cx1, .int .i64 ct1, .int .i64 cn1]) m0 (by kernel_rfl) rfl ⟨_, rfl, rfl, rfl, rfl, by kernel_rfl⟩ ⟨_, rfl, rfl, rfl, rfl, by kernel_rfl⟩ ⟨_, rfl, rfl, rfl, rfl, by kernel_rfl⟩ ⟨_, rfl, rfl, rfl, rfl, by kernel_rfl⟩ ⟨_, rfl, rfl, rfl, rfl, by kernel_rfl⟩ ⟨_, rfl, rfl, rfl, rfl, by kernel_rfl⟩ ⟨_, rfl, rfl, rfl, rfl, by kernel_rfl⟩ ⟨_, rfl, rfl, rfl, rfl, by kernel_rfl⟩ ⟨_, rfl, rfl, rfl, rfl, by kernel_rfl⟩ w.heap.size (w.heap.size + 1) rfl rfl (fun W hW => run_load24 (L := ⟨La, ml, Lc⟩) (qa.kept hW)) (fun W hW => run_load26 (qc.kept hW)) (fun W hW => k9 W (below_then hb hW)) (fun W L Y hW hA => k10 W L Y hA) (Nat.le_of_ble_eq_true rfl) ?_
          intro a W2 hs hd hkp hb1 hv
          have e7 : a.tmps.getD 7 undef = .string TT := hv 7 7 (by decide) rfl
          have e8 : a.tmps.getD 8 undef = .int .i64 Z := hv 8 8 (by decide) rfl
          have ep := frame_puts [7, 8, 28, 29, 30, 31, 32, 33, 34] hs hd (fun s h => hkp s (by intro i hi e; exact h (encD_out i hi s e)))
          simp only [List.foldl] at ep
          rw [e7] at ep
          rw [e8] at ep
          clear hs hd hkp hv e7 e8
          generalize a.tmps.getD 28 undef = g28 at ep
          generalize a.tmps.getD 29 undef = g29 at ep
          generalize a.tmps.getD 30 undef = g30 at ep
          generalize a.tmps.getD 31 undef = g31 at ep
          generalize a.tmps.getD 32 undef = g32 at ep
          generalize a.tmps.getD 33 undef = g33 at ep
          generalize a.tmps.getD 34 undef = g34 at ep
          simp only [Act.put, List.setIfInBounds_toArray, List.set_cons_succ, List.set_cons_zero] at ep
          subst ep
          replace hb := below_then hb hb1
          replace qa := qa.kept hb1
          replace qc := qc.kept hb1
          clear hb1 a0' a1' a2'
          obtain ⟨c0, c1, c2, c3, c4, c5, c6, c7⟩ := qc.cfg
          obtain ⟨a0', a1', a2'⟩ := qa.c3
          go_wp2_with (first
            | (go_at_call 18; refine (dS _).mono ?_; rintro e W8 ⟨L8, Y8, rfl, hN8, h1⟩; have b2 := below_new (Below.refl W8.heap.size W8) (.cells #[.int .i64 0, .int .i64 Sa, .slice L8.a L8.n L8.c] 24); have q8 : Blk 24 (W8.alloc (.cells #[.int .i64 0, .int .i64 Sa, .slice L8.a L8.n L8.c] 24)) W8.heap.size #[.int .i64 0, .int .i64 Sa, .slice L8.a L8.n L8.c] := Blk.new 24 W8 _; obtain ⟨V8, eV8⟩ : ∃ W, W8.alloc (.cells #[.int .i64 0, .int .i64 Sa, .slice L8.a L8.n L8.c] 24) = W := ⟨_, rfl⟩; rw [eV8] at b2 q8; have ad8 := (hN8.below b2).at_; have b1 := below_then h1 b2; replace hb := below_then hb b1; replace qc := qc.kept b1; clear h1 b1 b2 dS c0 c1 c2 c3 c4 c5 c6 c7; obtain ⟨c0, c1, c2, c3, c4, c5, c6, c7⟩ := qc.cfg; obtain ⟨e0, e1, e2⟩ := q8.c3))
          go_ret
          exact ⟨rfl, hb⟩
    · obtain ⟨La, ml, Lc, eL⟩ : ∃ a n c, L0 = ⟨a, n, c⟩ := ⟨L0.a, L0.n, L0.c, rfl⟩
      subst eL
      have hn : ml = m0.ln := w0.len
      have hml : ¬ (20 : Int) < (ml : Int) := by omega
      have hmx : ml ≤ 20 := by omega
      have hs2 : (40000 : Int) < (a2.size : Int) := by omega
      have hm : a2.size ≤ 9223372036854775807 := by unfold maxLen at w2; omega
      have hb := below_new (below_new (Below.refl w.heap.size w) (.cells #[.int .i64 R0, .int .i64 S0, .slice La ml Lc] 24)) (.cells #[.int .i64 cd1, .int .i64 ch1, .int .i64 cl1, .int .i64 cv1, .int .i64 cu1, .int .i64 cx1, .int .i64 ct1, .int .i64 cn1] 26)
      have qa : Blk 24 ((w.alloc (.cells #[.int .i64 R0, .int .i64 S0, .slice La ml Lc] 24)).alloc (.cells #[.int .i64 cd1, .int .i64 ch1, .int .i64 cl1, .int .i64 cv1, .int .i64 cu1, .int .i64 cx1, .int .i64 ct1, .int .i64 cn1] 26)) w.heap.size #[.int .i64 R0, .int .i64 S0, .slice La ml Lc] := (Blk.new 24 w _).kept (below_new (Below.refl _ _) _)
      clear hn w0 b0
      have kw := works_call
      go_enter Try.func7, Try.ntmps7
      go_wp2_with (first | (go_at_call 25; refine (kw _).mono ?_; rintro e W1 ⟨rfl, h1⟩; replace hb := below_then hb h1; replace qa := qa.kept h1; clear h1 kw; obtain ⟨a0', a1', a2'⟩ := qa.c3))
      go_ret
      exact ⟨rfl, hb⟩
  · obtain ⟨La, ml, Lc, eL⟩ : ∃ a n c, L0 = ⟨a, n, c⟩ := ⟨L0.a, L0.n, L0.c, rfl⟩
    subst eL
    have hn : ml = m0.ln := w0.len
    have hml : (20 : Int) < (ml : Int) := by omega
    have hmx : ml ≤ 9223372036854775807 := by omega
    have hb := below_new (below_new (Below.refl w.heap.size w) (.cells #[.int .i64 R0, .int .i64 S0, .slice La ml Lc] 24)) (.cells #[.int .i64 cd1, .int .i64 ch1, .int .i64 cl1, .int .i64 cv1, .int .i64 cu1, .int .i64 cx1, .int .i64 ct1, .int .i64 cn1] 26)
    have qa : Blk 24 ((w.alloc (.cells #[.int .i64 R0, .int .i64 S0, .slice La ml Lc] 24)).alloc (.cells #[.int .i64 cd1, .int .i64 ch1, .int .i64 cl1, .int .i64 cv1, .int .i64 cu1, .int .i64 cx1, .int .i64 ct1, .int .i64 cn1] 26)) w.heap.size #[.int .i64 R0, .int .i64 S0, .slice La ml Lc] := (Blk.new 24 w _).kept (below_new (Below.refl _ _) _)
    clear hn w0 b0
    have kw := works_call
    go_enter Try.func7, Try.ntmps7
    go_wp2_with (first | (go_at_call 25; refine (kw _).mono ?_; rintro e W1 ⟨rfl, h1⟩; replace hb := below_then hb h1; replace qa := qa.kept h1; clear h1 kw; obtain ⟨a0', a1', a2'⟩ := qa.c3))
    go_ret
    exact ⟨rfl, hb⟩

theorem contract (H : Type) (enc : TypeId × Value → H) (W : World) (base : Nat) (args : Array Value) (ds gs : List (DataW H)) (before : List MemPlace)
    (hval0 : ∀ (j : Nat) t v, Try.f7.params[j]? = some t → args[j]? = some v → Value.okWide Try.prog W .any base t v)
    (hW : DataW.Whole enc Try.prog Try.f7.params.toList Rows.graftBackSpec.vars false W args.toList ds gs before)
    (hsz0 : (DataW.weightsEach Try.prog (Try.f7.params.toList ++ Rows.graftBackSpec.plain.varTypes Try.prog) (ds ++ gs)).all (· ≤ reachBytes) = true) :
    Calls Try.prog 7 args W fun e W' => ∃ v, e = .returned v ∧ Rows.graftBackSpec.post enc Try.prog Try.f7 false true false false W args v W' := by
  have hval : ∀ (j : Nat) t v, Try.f7.params[j]? = some t → args[j]? = some v → Value.okWide Try.prog W .any base t v := hval0
  have hW' := hW
  obtain ⟨p, q, hA0, hV, rfl, hfz, hnd⟩ := hW
  have hA : DataW.TrodAll enc Try.prog W 0 (fun _ => true) true Try.f7.params.toList args.toList ds p := hA0
  have hsz : (DataW.weightsEach Try.prog (Try.f7.params.toList ++ Rows.graftBackSpec.plain.varTypes Try.prog) (ds ++ gs)).all (· ≤ reachBytes) = true := hsz0
  rw [Try.params7] at hA hval hsz
  obtain ⟨v0, vs0, d0, ds0, p0, q0, hargs, rfl, rfl, h0, r0⟩ := trodAll_cons hA
  obtain ⟨v1, vs1, d1, ds1, p1, q1, rfl, rfl, rfl, h1, r1⟩ := trodAll_cons r0
  obtain ⟨v2, vs2, d2, ds2, p2, q2, rfl, rfl, rfl, h2, r2⟩ := trodAll_cons r1
  obtain ⟨rfl, rfl, rfl⟩ := trodAll_nil r2
  obtain rfl : args = #[v0, v1, v2] := by cases args; simp_all
  obtain ⟨rfl, rfl⟩ := trodVars_none hV
  have k0 := h0
  have lt0 : ∀ x ∈ p0, x.block < W.heap.size := by obtain ⟨m, hm⟩ := k0; exact DataW.trod_lt m _ _ _ hm
  obtain ⟨R0, S0, L0, Y0, m0, rfl, rr0, ss0, w0, l0, f0⟩ := open_adapter (hval 0 24 v0 rfl rfl) h0
  have b0 : m0.ln ≤ 20 → FitsA m0 := f0 fun q hq => of_decide_eq_true (List.all_eq_true.1 hsz q (DataW.weights_mem_each (j := 0) rfl rfl q hq))
  have k1 := h1
  have lt1 : ∀ x ∈ p1, x.block < W.heap.size := by obtain ⟨m, hm⟩ := k1; exact DataW.trod_lt m _ _ _ hm
  obtain ⟨cd1, ch1, cl1, cv1, cu1, cx1, ct1, cn1, rfl⟩ := open_cfg (hval 1 26 v1 rfl rfl) h1
  obtain ⟨a2, rfl, rfl, rfl, w2⟩ := Go.ChangeMaps.open_string Try.underlying9 (hval 2 9 v2 rfl rfl) h2
  clear hA0 hval0
  refine (walk R0 S0 L0 Y0 m0 cd1 ch1 cl1 cv1 cu1 cx1 ct1 cn1 a2 W rr0 ss0 w0 l0  w2 b0).mono fun e W' ⟨he, bel⟩ => ?_
  subst he
  exact ⟨_, rfl, _, _, _, [], _, [], hW', trodAll_mk1 (shut_bool Try.underlying4 _), (trodAll_cons_mk (Below.trod laidOut (by kernel_rfl) (of_decide_eq_true (by kernel_rfl)) k0 bel lt0) (trodAll_cons_mk (Below.trod laidOut (by kernel_rfl) (of_decide_eq_true (by kernel_rfl)) k1 bel lt1) (trodAll_cons_mk (Go.ChangeMaps.shut_string Try.underlying9 w2) trodAll_mk0))), rfl, bel.frame _, fun h => by cases h⟩

set_option maxRecDepth 100000 in
theorem lifted (os : Os) (started : os.Started) (H : Type) (enc : TypeId × Value → H) :
    ReturnsInHanded {} Try.checked os 7 .any (Rows.graftBackSpec.pre6 enc Try.prog Try.f7 Rows.graftBackRow.domain false) (Rows.graftBackSpec.post enc Try.prog Try.f7 false true false false) := by
  refine returnsInHanded_of_change_sized (C := Try.checked) own started (by kernel_rfl) Try.func7
    (ChangeSpec.witness6 (enc := enc) (C := Try.checked) false ⟨#[], #[.agg #[.int .i64 0, .int .i64 0, .slice none 0 0], .agg #[.int .i64 0, .int .i64 0, .int .i64 0, .int .i64 0, .int .i64 0, .int .i64 0, .int .i64 0, .int .i64 0], .string ⟨#[]⟩], []⟩ 8 (by kernel_rfl) (by kernel_rfl) (by kernel_rfl) (by kernel_rfl)) ?_
  intro W base args ds gs before hval hW _ hsz _
  exact contract H enc W base args ds gs before hval hW hsz

theorem over : Rows.graftBackRow.holds Try.pinned (OpenSpec.ofChange Rows.graftBackSpec) :=
  OpenClaim.holds_of_wide 7 Try.f7 rfl rfl rfl rfl rfl rfl rfl ⟨rfl, rfl, rfl, rfl, rfl⟩ rfl rfl rfl rfl rfl (by kernel_rfl) Try.func7 (by kernel_rfl)
    (of_decide_eq_true (by kernel_rfl)) (by unfold Func.isWrapper; first | (rw [if_pos (by decide +kernel)]; kernel_rfl) | (rw [if_neg (by decide +kernel)]; exact ⟨rfl, rfl⟩))
    (fun os started H enc _ => lifted os started H enc)

theorem proved : Rows.GraftBackSaid :=
  over
#print axioms proved
end Go.Proofs.Ytbmlafgolmmekaa.graftBack
