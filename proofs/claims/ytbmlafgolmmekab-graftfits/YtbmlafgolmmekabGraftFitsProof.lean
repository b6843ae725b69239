/- For every adapter of at most 20 layers and every two configurations: where the adapter is right for the first, the second is right too, the program's Check tells it right for the second just if that has as many layers and the same Dim, and then its bytes are read for the second as they were; and the examples of works() hold. -/
import Derived.Test.YtbmlafgolmmekabRows
import Derived.Test.YtbmlafgolmmekabView
import Derived.Test.YtbmlafgolmmekabOwn
import Derived.Test.YtbmlafgolmmekabCfg
import Derived.Test.YtbmlafgolmmekabCfgs
import Derived.Test.YtbmlafgolmmekabCfgRef
import Derived.Test.YtbmlafgolmmekabHeld
import Derived.Test.YtbmlafgolmmekabReader
import Derived.Test.YtbmlafgolmmekabSls
import Derived.Test.YtbmlafgolmmekabSteps
import Derived.Test.YtbmlafgolmmekabInv
import Derived.Test.YtbmlafgolmmekabTyped
import Derived.Test.YtbmlafgolmmekabAds
import Derived.Test.YtbmlafgolmmekabRanges
import Derived.Test.YtbmlafgolmmekabSat
import Derived.Test.YtbmlafgolmmekabAdds
import Derived.Test.YtbmlafgolmmekabTexts
import Derived.Test.YtbmlafgolmmekabSums
import Derived.Test.YtbmlafgolmmekabSeals
import Derived.Test.YtbmlafgolmmekabOpens
import Derived.Test.YtbmlafgolmmekabWts
import Derived.Test.YtbmlafgolmmekabTwos
import Derived.Test.YtbmlafgolmmekabRdWts
import Derived.Test.YtbmlafgolmmekabRefWts
import Derived.Test.YtbmlafgolmmekabPrefix
import Derived.Test.YtbmlafgolmmekabChange
import Derived.Test.YtbmlafgolmmekabBack
import Derived.Test.YtbmlafgolmmekabCheck
import Derived.Test.YtbmlafgolmmekabPlan
import Derived.Test.YtbmlafgolmmekabFlat
import Derived.Test.YtbmlafgolmmekabShape
import Derived.Test.YtbmlafgolmmekabPush
import Derived.Test.YtbmlafgolmmekabShapes
import Derived.Test.YtbmlafgolmmekabBody
import Derived.Test.YtbmlafgolmmekabDecode
import Derived.Test.YtbmlafgolmmekabRefCheck
import Derived.Test.YtbmlafgolmmekabRegs
import Derived.Test.YtbmlafgolmmekabEnc
import Derived.Test.YtbmlafgolmmekabTrips
import Derived.Test.YtbmlafgolmmekabDots
import Derived.Test.YtbmlafgolmmekabDotsRef
import Derived.Test.YtbmlafgolmmekabFits
import Derived.Test.YtbmlafgolmmekabMats
import Derived.Test.YtbmlafgolmmekabMatsRef
import Derived.Test.YtbmlafgolmmekabApply
import Derived.Test.YtbmlafgolmmekabWorks
import Derived.Test.YtbmlafgolmmekabPair
import Derived.Test.YtbmlafgolmmekabSame
import Derived.Test.YtbmlafgolmmekabWorks10
import Derived.Test.YtbmlafgolmmekabOwnReg
import Derived.Test.YtbmlafgolmmekabOwns
import Derived.Test.YtbmlafgolmmekabOpenCfg
import Derived.Test.YtbmlafgolmmekabOpenAd
import Derived.Test.YtbmlafgolmmekabFitsReg
import Derived.WalkKit
import Derived.ProofKit
import Derived.OpenShut
import Derived.ChangeOld
import Derived.Below
import Derived.WalkLawsBesides
import Derived.ChangeMaps5
import Derived.Lib.SmallJoins
import Derived.Orders
import Derived.SizedLaws
namespace Go.Proofs.Ytbmlafgolmmekab.graftFits
open Go.ChangeShapes Go.WideShapes Go.ChangeAt Go.RowKit
set_option linter.unusedVariables false
set_option linter.unusedSimpArgs false

theorem own : ownKnob Try.prog.godebug = none := by kernel_rfl
theorem laidOut : laidOutB Try.prog = true := by kernel_rfl


theorem encD_out : ∀ i, i < 9 → ∀ s, encD i = some s → s ∈ [8, 9, 41, 42, 43, 44, 45, 46, 47] := by
  intro i hi s h
  have : ∀ i, i < 9 → (encD i).all (fun d => decide (d ∈ [8, 9, 41, 42, 43, 44, 45, 46, 47])) = true := by decide
  have := this i hi
  rw [h] at this
  simpa using this

theorem fitD_out : ∀ i, i < 11 → ∀ s, fitD i = some s → s ∈ [54, 55, 56, 57, 58, 59, 60, 61, 62, 63, 64] := by
  intro i hi s h
  have : ∀ i, i < 11 → (fitD i).all (fun d => decide (d ∈ [54, 55, 56, 57, 58, 59, 60, 61, 62, 63, 64])) = true := by decide
  have := this i hi
  rw [h] at this
  simpa using this


/-- what is right for one configuration is right for another just if that has as many layers, and the same Dim -/
theorem fits_iff {R S d h l v u x t n d2 h2 l2 v2 u2 x2 t2 n2 : Int} {m : AdV} (hz : checkA R S d h l v u x t n m = 0) (ok2 : okB d2 h2 l2 v2 u2 x2 t2 n2 = true) : okA R S d2 h2 l2 v2 u2 x2 t2 n2 = true ∧ (checkA R S d2 h2 l2 v2 u2 x2 t2 n2 m = 0 ↔ l = l2 ∧ d = d2) := by
  have hz' := hz
  obtain ⟨ok, hln, hlen⟩ := checked hz
  have r := rightA_of ok
  have r0 := r.r0
  have l0 := r.l0
  have nu := numsA_of ok
  have okA2 : okA R S d2 h2 l2 v2 u2 x2 t2 n2 = true := by
    unfold okA at ok ⊢
    simp only [Bool.and_eq_true] at ok ⊢
    exact ⟨ok2, ok.2⟩
  refine ⟨okA2, ?_⟩
  have r2 := rightA_of okA2
  have d20 := r2.d0
  have d0 := r.d0
  have p2 : 0 ≤ R * d2 := Int.mul_nonneg (by omega) (by omega)
  have p1 : 0 ≤ R * d := Int.mul_nonneg (by omega) (by omega)
  constructor
  · intro h2z
    obtain ⟨_, hln2, hlen2⟩ := checked h2z
    have e1 := hlen 0 (by omega) 0 (by decide)
    have e2 := hlen2 0 (by omega) 0 (by decide)
    have e3 : R * d = R * d2 := by omega
    exact ⟨by omega, Int.eq_of_mul_eq_mul_left (by omega) e3⟩
  · rintro ⟨rfl, rfl⟩
    unfold checkA at hz' ⊢
    rw [if_pos ok] at hz'
    rw [if_pos okA2]
    exact hz'


set_option maxHeartbeats 8000000 in
set_option maxRecDepth 20000 in
theorem walk (R0 S0 : Int) (L0 : SL) (Y0 : Nat → Nat → SL) (m0 : AdV) (cd1 ch1 cl1 cv1 cu1 cx1 ct1 cn1 : Int) (cd2 ch2 cl2 cv2 cu2 cx2 ct2 cn2 : Int) (w : World) (r0 : (Lit.int .i64 R0).wf = true) (s0 : (Lit.int .i64 S0).wf = true) (w0 : AdAt w L0 Y0 m0) (l0 : m0.ln ≤ 9223372036854775807)   (b0 : m0.ln ≤ 20 → FitsA m0) :
    Calls Try.prog 3 #[.agg #[.int .i64 R0, .int .i64 S0, .slice L0.a L0.n L0.c], .agg #[.int .i64 cd1, .int .i64 ch1, .int .i64 cl1, .int .i64 cv1, .int .i64 cu1, .int .i64 cx1, .int .i64 ct1, .int .i64 cn1], .agg #[.int .i64 cd2, .int .i64 ch2, .int .i64 cl2, .int .i64 cv2, .int .i64 cu2, .int .i64 cx2, .int .i64 ct2, .int .i64 cn2]] w fun e w' => e = .returned (.bool true) ∧ Below w.heap.size w w' := by
  have kw := works_call
  by_cases hl : m0.ln ≤ 20
  · have hF := b0 hl
    have k9 := fun W (hW : Below w.heap.size w W) => (own_call R0 S0 L0 Y0 m0 W (w0.below hW) hF).mono fun e W' ⟨L, Y, he, hn, hb⟩ => (⟨L, Y, he, hn.at_, hb⟩ : ∃ (L : SL) (Y : Nat → Nat → SL), e = Ending.returned (.agg #[.int .i64 R0, .int .i64 S0, .slice L.a L.n L.c]) ∧ AdAt W' L Y m0 ∧ Below W.heap.size W W')
    have k13 := fun W (hW : Below w.heap.size w W) => refCheck_call R0 S0 cd1 ch1 cl1 cv1 cu1 cx1 ct1 cn1 L0 Y0 m0 W (w0.below hW) l0
    have k6 := refConfig_call cd2 ch2 cl2 cv2 cu2 cx2 ct2 cn2
    have k10 := fun W (L : SL) (Y : Nat → Nat → SL) (hA : AdAt W L Y m0) => encode_call R0 S0 cd1 ch1 cl1 cv1 cu1 cx1 ct1 cn1 L Y m0 W hA
    have k12 := fun W (L : SL) (Y : Nat → Nat → SL) (hA : AdAt W L Y m0) => check_call R0 S0 cd2 ch2 cl2 cv2 cu2 cx2 ct2 cn2 L Y m0 W hA
    have k17 := fun W (L : SL) (Y : Nat → Nat → SL) (hA : AdAt W L Y m0) (hW : Below w.heap.size w W) => sameA_call R0 S0 L L0 Y Y0 m0 W hA (w0.below hW) (by omega)
    have hwf := flatA_wf w0
    have agree := shape_flat m0
    have hn : L0.n = m0.ln := w0.len
    obtain ⟨La, ml, Lc, eL⟩ : ∃ a n c, L0 = ⟨a, n, c⟩ := ⟨L0.a, L0.n, L0.c, rfl⟩
    subst eL
    have hml : ¬ (20 : Int) < (ml : Int) := by have hn' : ml = m0.ln := hn; omega
    have hmx : ml ≤ 20 := by have hn' : ml = m0.ln := hn; omega
    have hb := below_new (below_new (below_new (Below.refl w.heap.size w) (.cells #[.int .i64 R0, .int .i64 S0, .slice La ml Lc] 24)) (.cells #[.int .i64 cd1, .int .i64 ch1, .int .i64 cl1, .int .i64 cv1, .int .i64 cu1, .int .i64 cx1, .int .i64 ct1, .int .i64 cn1] 26)) (.cells #[.int .i64 cd2, .int .i64 ch2, .int .i64 cl2, .int .i64 cv2, .int .i64 cu2, .int .i64 cx2, .int .i64 ct2, .int .i64 cn2] 26)
    have qa : Blk 24 (((w.alloc (.cells #[.int .i64 R0, .int .i64 S0, .slice La ml Lc] 24)).alloc (.cells #[.int .i64 cd1, .int .i64 ch1, .int .i64 cl1, .int .i64 cv1, .int .i64 cu1, .int .i64 cx1, .int .i64 ct1, .int .i64 cn1] 26)).alloc (.cells #[.int .i64 cd2, .int .i64 ch2, .int .i64 cl2, .int .i64 cv2, .int .i64 cu2, .int .i64 cx2, .int .i64 ct2, .int .i64 cn2] 26)) w.heap.size #[.int .i64 R0, .int .i64 S0, .slice La ml Lc] := ((Blk.new 24 w _).kept (below_new (Below.refl _ _) _)).kept (below_new (Below.refl _ _) _)
    have qc : Blk 26 (((w.alloc (.cells #[.int .i64 R0, .int .i64 S0, .slice La ml Lc] 24)).alloc (.cells #[.int .i64 cd1, .int .i64 ch1, .int .i64 cl1, .int .i64 cv1, .int .i64 cu1, .int .i64 cx1, .int .i64 ct1, .int .i64 cn1] 26)).alloc (.cells #[.int .i64 cd2, .int .i64 ch2, .int .i64 cl2, .int .i64 cv2, .int .i64 cu2, .int .i64 cx2, .int .i64 ct2, .int .i64 cn2] 26)) (w.heap.size + 1) #[.int .i64 cd1, .int .i64 ch1, .int .i64 cl1, .int .i64 cv1, .int .i64 cu1, .int .i64 cx1, .int .i64 ct1, .int .i64 cn1] := (Blk.new_at 26 (w.alloc _) _ _ (by simp)).kept (below_new (Below.refl _ _) _)
    have qd : Blk 26 (((w.alloc (.cells #[.int .i64 R0, .int .i64 S0, .slice La ml Lc] 24)).alloc (.cells #[.int .i64 cd1, .int .i64 ch1, .int .i64 cl1, .int .i64 cv1, .int .i64 cu1, .int .i64 cx1, .int .i64 ct1, .int .i64 cn1] 26)).alloc (.cells #[.int .i64 cd2, .int .i64 ch2, .int .i64 cl2, .int .i64 cv2, .int .i64 cu2, .int .i64 cx2, .int .i64 ct2, .int .i64 cn2] 26)) (w.heap.size + 1 + 1) #[.int .i64 cd2, .int .i64 ch2, .int .i64 cl2, .int .i64 cv2, .int .i64 cu2, .int .i64 cx2, .int .i64 ct2, .int .i64 cn2] := Blk.new_at 26 ((w.alloc _).alloc _) _ _ (by simp)
    have HW := hidden_ w0
    clear hn w0 b0 hl
    obtain ⟨a0', a1', a2'⟩ := qa.c3
    by_cases hz0 : checkA R0 S0 cd1 ch1 cl1 cv1 cu1 cx1 ct1 cn1 m0 = 0
    · simp only [hz0] at k13
      cases okd : okB cd2 ch2 cl2 cv2 cu2 cx2 ct2 cn2 with
      | true =>
        simp only [okd] at k6
        obtain ⟨okA2, iff⟩ := fits_iff hz0 okd
        obtain ⟨ok, hln, hlen⟩ := checked hz0
        have ff := (flat_few hz0 (4 * m0.ln) (Nat.le_refl _)).1
        have f256 := (flat_few hz0 (4 * m0.ln) (Nat.le_refl _)).2
        have nu := numsA_of ok
        have n1 := nu.hl
        have n3 := nu.hT
        have n4 := nu.hT'
        obtain ⟨zs, ezs⟩ : ∃ z, flatA m0 = z := ⟨_, rfl⟩
        have el : m0.ln = cl1.toNat := by omega
        have ff' : zs.length = 4 * m0.ln * (R0 * cd1).toNat := by rw [← ezs]; exact ff
        have lz : (zs.length : Int) = cl1 * 4 * (R0 * cd1) := by rw [ff', el, ← n4]; omega
        have zl : zs.length ≤ 256 := by rw [← ezs]; exact f256
        have ag := agree (R0 * cd1).toNat hlen
        rw [ezs, el] at ag
        rw [ezs] at hwf
        obtain ⟨TT, eTT⟩ : ∃ z, encV R0 S0 cd1 ch1 cl1 cv1 cu1 cx1 ct1 cn1 m0 = z := ⟨_, rfl⟩
        have eT : TT = encG R0 S0 zs := by rw [← eTT]; unfold encV; rw [if_pos hz0, ezs]
        have tsz : TT.size ≤ 9223372036854775805 := by rw [eT, enc_size]; omega
        simp only [hz0, eTT] at k10
        have kT := fun W => decode_call cd2 ch2 cl2 cv2 cu2 cx2 ct2 cn2 TT W tsz
        clear ff f256 nu n3 n4 ezs el ff' zl eTT tsz hz0 agree hlen hln
        by_cases e1 : cl1 = cl2
        · by_cases e2 : cd1 = cd2
          · subst e1 e2
            have hc2 := iff.2 ⟨rfl, rfl⟩
            simp only [hc2] at k12
            obtain ⟨-, t1, t2, t3, t4⟩ := dec_enc okA2 zs lz hwf
            rw [← eT] at t1 t2 t3 t4
            simp only [t1, t2, t3, t4] at kT
            replace kT := fun W => (kT W).mono fun e W' ⟨L, Y, he, hn, hb⟩ => (⟨L, Y, he, hn.congr ag, hb⟩ : ∃ (L : SL) (Y : Nat → Nat → SL), e = Ending.returned (.tuple #[.agg #[.int .i64 R0, .int .i64 S0, .slice L.a L.n L.c], .int .i64 0]) ∧ NewA W.heap.size W' L Y m0 ∧ Below W.heap.size W W')
            clear t1 t2 t3 t4 eT lz hwf ag okA2 iff ok okd n1 hc2
            go_enter Try.func3, Try.ntmps3
            go_wp2_with (first
              | (go_at_call 4; refine (kw _).mono ?_; rintro e W1 ⟨rfl, h1⟩; replace hb := below_then hb h1; replace qa := qa.kept h1; replace qc := qc.kept h1; replace qd := qd.kept h1; clear h1 kw; obtain ⟨a0', a1', a2'⟩ := qa.c3; obtain ⟨c0, c1, c2, c3, c4, c5, c6, c7⟩ := qc.cfg)
              | (go_at_call 5; refine (k13 _ hb).mono ?_; rintro e W2 ⟨rfl, h1⟩; replace hb := below_then hb h1; replace qa := qa.kept h1; replace qc := qc.kept h1; replace qd := qd.kept h1; clear h1 k13 a0' a1' a2' c0 c1 c2 c3 c4 c5 c6 c7; obtain ⟨d0, d1, d2, d3, d4, d5, d6, d7⟩ := qd.cfg)
              | (go_at_call 6; refine (k6 _).mono ?_; rintro e W3 ⟨rfl, h1⟩; replace hb := below_then hb h1; replace qa := qa.kept h1; replace qc := qc.kept h1; replace qd := qd.kept h1; clear h1 k6 d0 d1 d2 d3 d4 d5 d6 d7; obtain ⟨c0, c1, c2, c3, c4, c5, c6, c7⟩ := qc.cfg; obtain ⟨d0, d1, d2, d3, d4, d5, d6, d7⟩ := qd.cfg))
            refine enc_region R0 S0 0 TT (.agg #[.int .i64 R0, .int .i64 S0, .slice La ml Lc]) (.agg #[.int .i64 cd1, .int .i64 ch1, .int .i64 cl1, .int .i64 cv1, .int .i64 cu1, .int .i64 cx1, .int .i64 ct1, .int .i64 cn1]) m0 (by kernel_rfl) rfl ⟨_, rfl, rfl, rfl, rfl, by kernel_rfl⟩ ⟨_, rfl, rfl, rfl, rfl, by kernel_rfl⟩ ⟨_, rfl, rfl, rfl, rfl, by kernel_rfl⟩ ⟨_, rfl, rfl, rfl, rfl, by kernel_rfl⟩ ⟨_, rfl, rfl, rfl, rfl, by kernel_rfl⟩ ⟨_, rfl, rfl, rfl, rfl, by kernel_rfl⟩ ⟨_, rfl, rfl, rfl, rfl, by kernel_rfl⟩ ⟨_, rfl, rfl, rfl, rfl, by kernel_rfl⟩ ⟨_, rfl, rfl, rfl, rfl, by kernel_rfl⟩ w.heap.size (w.heap.size + 1) rfl rfl (fun W hW => run_load24 (L := ⟨La, ml, Lc⟩) (qa.kept hW)) (fun W hW => run_load26 (qc.kept hW)) (fun W hW => k9 W (below_then hb hW)) (fun W L Y hW hA => k10 W L Y hA) (Nat.le_of_ble_eq_true rfl) ?_
            intro a W4 hs hd hkp hb1 hv
            have e8 : a.tmps.getD 8 undef = .string TT := hv 7 8 (by decide) rfl
            have e9 : a.tmps.getD 9 undef = .int .i64 0 := hv 8 9 (by decide) rfl
            have ep := frame_puts [8, 9, 41, 42, 43, 44, 45, 46, 47] hs hd (fun s h => hkp s (by intro i hi e; exact h (encD_out i hi s e)))
            simp only [List.foldl] at ep
            rw [e8] at ep
            rw [e9] at ep
            clear hs hd hkp hv e8 e9
            generalize a.tmps.getD 41 undef = g41 at ep
            generalize a.tmps.getD 42 undef = g42 at ep
            generalize a.tmps.getD 43 undef = g43 at ep
            generalize a.tmps.getD 44 undef = g44 at ep
            generalize a.tmps.getD 45 undef = g45 at ep
            generalize a.tmps.getD 46 undef = g46 at ep
            generalize a.tmps.getD 47 undef = g47 at ep
            simp only [Act.put, List.setIfInBounds_toArray, List.set_cons_succ, List.set_cons_zero] at ep
            subst ep
            replace hb := below_then hb hb1
            replace qa := qa.kept hb1
            replace qd := qd.kept hb1
            clear hb1 qc c0 c1 c2 c3 c4 c5 c6 c7 d0 d1 d2 d3 d4 d5 d6 d7
            obtain ⟨d0, d1, d2, d3, d4, d5, d6, d7⟩ := qd.cfg
            go_wp2_with (first | (go_at_call 9; refine (kT _).mono ?_; rintro e W5 ⟨L5, Y5, rfl, hN5, h1⟩; have b2 := below_new (Below.refl W5.heap.size W5) (.cells #[.int .i64 R0, .int .i64 S0, .slice L5.a L5.n L5.c] 24); have q5 : Blk 24 (W5.alloc (.cells #[.int .i64 R0, .int .i64 S0, .slice L5.a L5.n L5.c] 24)) W5.heap.size #[.int .i64 R0, .int .i64 S0, .slice L5.a L5.n L5.c] := Blk.new 24 W5 _; obtain ⟨V5, eV5⟩ : ∃ W, W5.alloc (.cells #[.int .i64 R0, .int .i64 S0, .slice L5.a L5.n L5.c] 24) = W := ⟨_, rfl⟩; rw [eV5] at b2 q5; have ad5 := (hN5.below b2).at_; have b1 := below_then h1 b2; replace hb := below_then hb b1; replace qa := qa.kept b1; replace qd := qd.kept b1; clear h1 b1 b2 hN5 kT d0 d1 d2 d3 d4 d5 d6 d7))
            refine fit_region R0 S0 0 true (.agg #[.int .i64 R0, .int .i64 S0, .slice La ml Lc]) (.agg #[.int .i64 cd1, .int .i64 ch2, .int .i64 cl1, .int .i64 cv2, .int .i64 cu2, .int .i64 cx2, .int .i64 ct2, .int .i64 cn2]) m0 (by kernel_rfl) rfl ⟨_, rfl, rfl, rfl, rfl, by kernel_rfl⟩ ⟨_, rfl, rfl, rfl, rfl, by kernel_rfl⟩ ⟨_, rfl, rfl, rfl, rfl, by kernel_rfl⟩ ⟨_, rfl, rfl, rfl, rfl, by kernel_rfl⟩ ⟨_, rfl, rfl, rfl, rfl, by kernel_rfl⟩ ⟨_, rfl, rfl, rfl, rfl, by kernel_rfl⟩ ⟨_, rfl, rfl, rfl, rfl, by kernel_rfl⟩ ⟨_, rfl, rfl, rfl, rfl, by kernel_rfl⟩ ⟨_, rfl, rfl, rfl, rfl, by kernel_rfl⟩ ⟨_, rfl, rfl, rfl, rfl, by kernel_rfl⟩ ⟨_, rfl, rfl, rfl, rfl, by kernel_rfl⟩ w.heap.size (w.heap.size + 1 + 1) rfl rfl rfl rfl rfl (fun W hW => run_load24 (L := ⟨La, ml, Lc⟩) (qa.kept hW)) (fun W hW => run_load26 (qd.kept hW)) (fun W hW => k9 W (below_then hb hW)) (fun W L Y hW hA => k12 W L Y hA) (Nat.le_of_ble_eq_true rfl) ?_
            intro a W6 hs hd hkp hb1 hv
            have e64 : a.tmps.getD 64 undef = .bool false := hv 10 64 (by decide) rfl
            have ep := frame_puts [54, 55, 56, 57, 58, 59, 60, 61, 62, 63, 64] hs hd (fun s h => hkp s (by intro i hi e; exact h (fitD_out i hi s e)))
            simp only [List.foldl] at ep
            rw [e64] at ep
            clear hs hd hkp hv e64
            generalize a.tmps.getD 54 undef = g54 at ep
            generalize a.tmps.getD 55 undef = g55 at ep
            generalize a.tmps.getD 56 undef = g56 at ep
            generalize a.tmps.getD 57 undef = g57 at ep
            generalize a.tmps.getD 58 undef = g58 at ep
            generalize a.tmps.getD 59 undef = g59 at ep
            generalize a.tmps.getD 60 undef = g60 at ep
            generalize a.tmps.getD 61 undef = g61 at ep
            generalize a.tmps.getD 62 undef = g62 at ep
            generalize a.tmps.getD 63 undef = g63 at ep
            simp only [Act.put, List.setIfInBounds_toArray, List.set_cons_succ, List.set_cons_zero] at ep
            subst ep
            replace hb := below_then hb hb1
            replace qa := qa.kept hb1
            replace q5 := q5.kept hb1
            replace ad5 := ad5.below hb1
            clear hb1 qd eV5
            obtain ⟨a0', a1', a2'⟩ := qa.c3
            obtain ⟨x0, x1, x2⟩ := q5.c3
            go_wp2_with (first | (go_at_call 11; refine (k17 _ L5 Y5 ad5 hb).mono ?_; rintro e W7 ⟨rfl, h1⟩; replace hb := below_then hb h1; clear h1 k17))
            go_ret
            exact ⟨rfl, hb⟩
          · have g1 : (cd1 == cd2) = false := by simp [e2]
            subst e1
            have hc2 : ¬ checkA R0 S0 cd2 ch2 cl1 cv2 cu2 cx2 ct2 cn2 m0 = 0 := fun h => e2 (iff.1 h).2
            obtain ⟨Z2, eZ2⟩ : ∃ z, checkA R0 S0 cd2 ch2 cl1 cv2 cu2 cx2 ct2 cn2 m0 = z := ⟨_, rfl⟩
            simp only [eZ2] at k12
            rw [eZ2] at hc2
            have zB : (Z2 == 0) = false := by simp [hc2]
            obtain ⟨Rx, eRx⟩ : ∃ z, decR cd2 ch2 cl1 cv2 cu2 cx2 ct2 cn2 TT = z := ⟨_, rfl⟩
            obtain ⟨Sx, eSx⟩ : ∃ z, decS cd2 ch2 cl1 cv2 cu2 cx2 ct2 cn2 TT = z := ⟨_, rfl⟩
            obtain ⟨Ex, eEx⟩ : ∃ z, decE cd2 ch2 cl1 cv2 cu2 cx2 ct2 cn2 TT = z := ⟨_, rfl⟩
            obtain ⟨mx, emx⟩ : ∃ z, decM cd2 ch2 cl1 cv2 cu2 cx2 ct2 cn2 TT = z := ⟨_, rfl⟩
            simp only [eRx, eSx, eEx, emx] at kT
            clear eRx eSx eEx emx eZ2 hc2 iff eT lz hwf ag okA2 ok okd n1 k17
            go_enter Try.func3, Try.ntmps3
            go_wp2_with (first
              | (go_at_call 4; refine (kw _).mono ?_; rintro e W1 ⟨rfl, h1⟩; replace hb := below_then hb h1; replace qa := qa.kept h1; replace qc := qc.kept h1; replace qd := qd.kept h1; clear h1 kw; obtain ⟨a0', a1', a2'⟩ := qa.c3; obtain ⟨c0, c1, c2, c3, c4, c5, c6, c7⟩ := qc.cfg)
              | (go_at_call 5; refine (k13 _ hb).mono ?_; rintro e W2 ⟨rfl, h1⟩; replace hb := below_then hb h1; replace qa := qa.kept h1; replace qc := qc.kept h1; replace qd := qd.kept h1; clear h1 k13 a0' a1' a2' c0 c1 c2 c3 c4 c5 c6 c7; obtain ⟨d0, d1, d2, d3, d4, d5, d6, d7⟩ := qd.cfg)
              | (go_at_call 6; refine (k6 _).mono ?_; rintro e W3 ⟨rfl, h1⟩; replace hb := below_then hb h1; replace qa := qa.kept h1; replace qc := qc.kept h1; replace qd := qd.kept h1; clear h1 k6 d0 d1 d2 d3 d4 d5 d6 d7; obtain ⟨c0, c1, c2, c3, c4, c5, c6, c7⟩ := qc.cfg; obtain ⟨d0, d1, d2, d3, d4, d5, d6, d7⟩ := qd.cfg))
            refine enc_region R0 S0 0 TT (.agg #[.int .i64 R0, .int .i64 S0, .slice La ml Lc]) (.agg #[.int .i64 cd1, .int .i64 ch1, .int .i64 cl1, .int .i64 cv1, .int .i64 cu1, .int .i64 cx1, .int .i64 ct1, .int .i64 cn1]) m0 (by kernel_rfl) rfl ⟨_, rfl, rfl, rfl, rfl, by kernel_rfl⟩ ⟨_, rfl, rfl, rfl, rfl, by kernel_rfl⟩ ⟨_, rfl, rfl, rfl, rfl, by kernel_rfl⟩ ⟨_, rfl, rfl, rfl, rfl, by kernel_rfl⟩ ⟨_, rfl, rfl, rfl, rfl, by kernel_rfl⟩ ⟨_, rfl, rfl, rfl, rfl, by kernel_rfl⟩ ⟨_, rfl, rfl, rfl, rfl, by kernel_rfl⟩ ⟨_, rfl, rfl, rfl, rfl, by kernel_rfl⟩ ⟨_, rfl, rfl, rfl, rfl, by kernel_rfl⟩ w.heap.size (w.heap.size + 1) rfl rfl (fun W hW => run_load24 (L := ⟨La, ml, Lc⟩) (qa.kept hW)) (fun W hW => run_load26 (qc.kept hW)) (fun W hW => k9 W (below_then hb hW)) (fun W L Y hW hA => k10 W L Y hA) (Nat.le_of_ble_eq_true rfl) ?_
            intro a W4 hs hd hkp hb1 hv
            have e8 : a.tmps.getD 8 undef = .string TT := hv 7 8 (by decide) rfl
            have e9 : a.tmps.getD 9 undef = .int .i64 0 := hv 8 9 (by decide) rfl
            have ep := frame_puts [8, 9, 41, 42, 43, 44, 45, 46, 47] hs hd (fun s h => hkp s (by intro i hi e; exact h (encD_out i hi s e)))
            simp only [List.foldl] at ep
            rw [e8] at ep
            rw [e9] at ep
            clear hs hd hkp hv e8 e9
            generalize a.tmps.getD 41 undef = g41 at ep
            generalize a.tmps.getD 42 undef = g42 at ep
            generalize a.tmps.getD 43 undef = g43 at ep
            generalize a.tmps.getD 44 undef = g44 at ep
            generalize a.tmps.getD 45 undef = g45 at ep
            generalize a.tmps.getD 46 undef = g46 at ep
            generalize a.tmps.getD 47 undef = g47 at ep
            simp only [Act.put, List.setIfInBounds_toArray, List.set_cons_succ, List.set_cons_zero] at ep
            subst ep
            replace hb := below_then hb hb1
            replace qa := qa.kept hb1
            replace qd := qd.kept hb1
            clear hb1 qc c0 c1 c2 c3 c4 c5 c6 c7 d0 d1 d2 d3 d4 d5 d6 d7
            obtain ⟨d0, d1, d2, d3, d4, d5, d6, d7⟩ := qd.cfg
            go_wp2_with (first | (go_at_call 9; refine (kT _).mono ?_; rintro e W5 ⟨L5, Y5, rfl, hN5, h1⟩; have b2 := below_new (Below.refl W5.heap.size W5) (.cells #[.int .i64 Rx, .int .i64 Sx, .slice L5.a L5.n L5.c] 24); have q5 : Blk 24 (W5.alloc (.cells #[.int .i64 Rx, .int .i64 Sx, .slice L5.a L5.n L5.c] 24)) W5.heap.size #[.int .i64 Rx, .int .i64 Sx, .slice L5.a L5.n L5.c] := Blk.new 24 W5 _; obtain ⟨V5, eV5⟩ : ∃ W, W5.alloc (.cells #[.int .i64 Rx, .int .i64 Sx, .slice L5.a L5.n L5.c] 24) = W := ⟨_, rfl⟩; rw [eV5] at b2 q5; have ad5 := (hN5.below b2).at_; have b1 := below_then h1 b2; replace hb := below_then hb b1; replace qa := qa.kept b1; replace qd := qd.kept b1; clear h1 b1 b2 hN5 kT d0 d1 d2 d3 d4 d5 d6 d7))
            refine fit_region R0 S0 Z2 false (.agg #[.int .i64 R0, .int .i64 S0, .slice La ml Lc]) (.agg #[.int .i64 cd2, .int .i64 ch2, .int .i64 cl1, .int .i64 cv2, .int .i64 cu2, .int .i64 cx2, .int .i64 ct2, .int .i64 cn2]) m0 (by kernel_rfl) rfl ⟨_, rfl, rfl, rfl, rfl, by kernel_rfl⟩ ⟨_, rfl, rfl, rfl, rfl, by kernel_rfl⟩ ⟨_, rfl, rfl, rfl, rfl, by kernel_rfl⟩ ⟨_, rfl, rfl, rfl, rfl, by kernel_rfl⟩ ⟨_, rfl, rfl, rfl, rfl, by kernel_rfl⟩ ⟨_, rfl, rfl, rfl, rfl, by kernel_rfl⟩ ⟨_, rfl, rfl, rfl, rfl, by kernel_rfl⟩ ⟨_, rfl, rfl, rfl, rfl, by kernel_rfl⟩ ⟨_, rfl, rfl, rfl, rfl, by kernel_rfl⟩ ⟨_, rfl, rfl, rfl, rfl, by kernel_rfl⟩ ⟨_, rfl, rfl, rfl, rfl, by kernel_rfl⟩ w.heap.size (w.heap.size + 1 + 1) rfl rfl rfl rfl zB (fun W hW => run_load24 (L := ⟨La, ml, Lc⟩) (qa.kept hW)) (fun W hW => run_load26 (qd.kept hW)) (fun W hW => k9 W (below_then hb hW)) (fun W L Y hW hA => k12 W L Y hA) (Nat.le_of_ble_eq_true rfl) ?_
            intro a W6 hs hd hkp hb1 hv
            have e64 : a.tmps.getD 64 undef = .bool false := hv 10 64 (by decide) rfl
            have ep := frame_puts [54, 55, 56, 57, 58, 59, 60, 61, 62, 63, 64] hs hd (fun s h => hkp s (by intro i hi e; exact h (fitD_out i hi s e)))
            simp only [List.foldl] at ep
            rw [e64] at ep
            clear hs hd hkp hv e64
            generalize a.tmps.getD 54 undef = g54 at ep
            generalize a.tmps.getD 55 undef = g55 at ep
            generalize a.tmps.getD 56 undef = g56 at ep
            generalize a.tmps.getD 57 undef = g57 at ep
            generalize a.tmps.getD 58 undef = g58 at ep
            generalize a.tmps.getD 59 undef = g59 at ep
            generalize a.tmps.getD 60 undef = g60 at ep
            generalize a.tmps.getD 61 undef = g61 at ep
            generalize a.tmps.getD 62 undef = g62 at ep
            generalize a.tmps.getD 63 undef = g63 at ep
            simp only [Act.put, List.setIfInBounds_toArray, List.set_cons_succ, List.set_cons_zero] at ep
            subst ep
            replace hb := below_then hb hb1
            replace qa := qa.kept hb1
            replace q5 := q5.kept hb1
            replace ad5 := ad5.below hb1
            clear hb1 qd eV5
            obtain ⟨a0', a1', a2'⟩ := qa.c3
            obtain ⟨x0, x1, x2⟩ := q5.c3
            go_wp2
            go_ret
            exact ⟨rfl, hb⟩
        · have g1 : (cl1 == cl2) = false := by simp [e1]
          have hc2 : ¬ checkA R0 S0 cd2 ch2 cl2 cv2 cu2 cx2 ct2 cn2 m0 = 0 := fun h => e1 (iff.1 h).1
          obtain ⟨Z2, eZ2⟩ : ∃ z, checkA R0 S0 cd2 ch2 cl2 cv2 cu2 cx2 ct2 cn2 m0 = z := ⟨_, rfl⟩
          simp only [eZ2] at k12
          rw [eZ2] at hc2
          have zB : (Z2 == 0) = false := by simp [hc2]
          obtain ⟨Rx, eRx⟩ : ∃ z, decR cd2 ch2 cl2 cv2 cu2 cx2 ct2 cn2 TT = z := ⟨_, rfl⟩
          obtain ⟨Sx, eSx⟩ : ∃ z, decS cd2 ch2 cl2 cv2 cu2 cx2 ct2 cn2 TT = z := ⟨_, rfl⟩
          obtain ⟨Ex, eEx⟩ : ∃ z, decE cd2 ch2 cl2 cv2 cu2 cx2 ct2 cn2 TT = z := ⟨_, rfl⟩
          obtain ⟨mx, emx⟩ : ∃ z, decM cd2 ch2 cl2 cv2 cu2 cx2 ct2 cn2 TT = z := ⟨_, rfl⟩
          simp only [eRx, eSx, eEx, emx] at kT
          clear eRx eSx eEx emx eZ2 hc2 iff eT lz hwf ag okA2 ok okd n1 k17
          go_enter Try.func3, Try.ntmps3
          go_wp2_with (first
            | (go_at_call 4; refine (kw _).mono ?_; rintro e W1 ⟨rfl, h1⟩; replace hb := below_then hb h1; replace qa := qa.kept h1; replace qc := qc.kept h1; replace qd := qd.kept h1; clear h1 kw; obtain ⟨a0', a1', a2'⟩ := qa.c3; obtain ⟨c0, c1, c2, c3, c4, c5, c6, c7⟩ := qc.cfg)
            | (go_at_call 5; refine (k13 _ hb).mono ?_; rintro e W2 ⟨rfl, h1⟩; replace hb := below_then hb h1; replace qa := qa.kept h1; replace qc := qc.kept h1; replace qd := qd.kept h1; clear h1 k13 a0' a1' a2' c0 c1 c2 c3 c4 c5 c6 c7; obtain ⟨d0, d1, d2, d3, d4, d5, d6, d7⟩ := qd.cfg)
            | (go_at_call 6; refine (k6 _).mono ?_; rintro e W3 ⟨rfl, h1⟩; replace hb := below_then hb h1; replace qa := qa.kept h1; replace qc := qc.kept h1; replace qd := qd.kept h1; clear h1 k6 d0 d1 d2 d3 d4 d5 d6 d7; obtain ⟨c0, c1, c2, c3, c4, c5, c6, c7⟩ := qc.cfg; obtain ⟨d0, d1, d2, d3, d4, d5, d6, d7⟩ := qd.cfg))
          refine enc_region R0 S0 0 TT (.agg #[.int .i64 R0, .int .i64 S0, .slice La ml Lc]) (.agg #[.int .i64 cd1, .int .i64 ch1, .int .i64 cl1, .int .i64 cv1, .int .i64 cu1, .int .i64 cx1, .int .i64 ct1, .int .i64 cn1]) m0 (by kernel_rfl) rfl ⟨_, rfl, rfl, rfl, rfl, by kernel_rfl⟩ ⟨_, rfl, rfl, rfl, rfl, by kernel_rfl⟩ ⟨_, rfl, rfl, rfl, rfl, by kernel_rfl⟩ ⟨_, rfl, rfl, rfl, rfl, by kernel_rfl⟩ ⟨_, rfl, rfl, rfl, rfl, by kernel_rfl⟩ ⟨_, rfl, rfl, rfl, rfl, by kernel_rfl⟩ ⟨_, rfl, rfl, rfl, rfl, by kernel_rfl⟩ ⟨_, rfl, rfl, rfl, rfl, by kernel_rfl⟩ ⟨_, rfl, rfl, rfl, rfl, by kernel_rfl⟩ w.heap.size (w.heap.size + 1) rfl rfl (fun W hW => run_load24 (L := ⟨La, ml, Lc⟩) (qa.kept hW)) (fun W hW => run_load26 (qc.kept hW)) (fun W hW => k9 W (below_then hb hW)) (fun W L Y hW hA => k10 W L Y hA) (Nat.le_of_ble_eq_true rfl) ?_
          intro a W4 hs hd hkp hb1 hv
          have e8 : a.tmps.getD 8 undef = .string TT := hv 7 8 (by decide) rfl
          have e9 : a.tmps.getD 9 undef = .int .i64 0 := hv 8 9 (by decide) rfl
          have ep := frame_puts [8, 9, 41, 42, 43, 44, 45, 46, 47] hs hd (fun s h => hkp s (by intro i hi e; exact h (encD_out i hi s e)))
          simp only [List.foldl] at ep
          rw [e8] at ep
          rw [e9] at ep
          clear hs hd hkp hv e8 e9
          generalize a.tmps.getD 41 undef = g41 at ep
          generalize a.tmps.getD 42 undef = g42 at ep
          generalize a.tmps.getD 43 undef = g43 at ep
          generalize a.tmps.getD 44 undef = g44 at ep
          generalize a.tmps.getD 45 undef = g45 at ep
          generalize a.tmps.getD 46 undef = g46 at ep
          generalize a.tmps.getD 47 undef = g47 at ep
          simp only [Act.put, List.setIfInBounds_toArray, List.set_cons_succ, List.set_cons_zero] at ep
          subst ep
          replace hb := below_then hb hb1
          replace qa := qa.kept hb1
          replace qd := qd.kept hb1
          clear hb1 qc c0 c1 c2 c3 c4 c5 c6 c7 d0 d1 d2 d3 d4 d5 d6 d7
          obtain ⟨d0, d1, d2, d3, d4, d5, d6, d7⟩ := qd.cfg
          go_wp2_with (first | (go_at_call 9; refine (kT _).mono ?_; rintro e W5 ⟨L5, Y5, rfl, hN5, h1⟩; have b2 := below_new (Below.refl W5.heap.size W5) (.cells #[.int .i64 Rx, .int .i64 Sx, .slice L5.a L5.n L5.c] 24); have q5 : Blk 24 (W5.alloc (.cells #[.int .i64 Rx, .int .i64 Sx, .slice L5.a L5.n L5.c] 24)) W5.heap.size #[.int .i64 Rx, .int .i64 Sx, .slice L5.a L5.n L5.c] := Blk.new 24 W5 _; obtain ⟨V5, eV5⟩ : ∃ W, W5.alloc (.cells #[.int .i64 Rx, .int .i64 Sx, .slice L5.a L5.n L5.c] 24) = W := ⟨_, rfl⟩; rw [eV5] at b2 q5; have ad5 := (hN5.below b2).at_; have b1 := below_then h1 b2; replace hb := below_then hb b1; replace qa := qa.kept b1; replace qd := qd.kept b1; clear h1 b1 b2 hN5 kT d0 d1 d2 d3 d4 d5 d6 d7))
          refine fit_region R0 S0 Z2 false (.agg #[.int .i64 R0, .int .i64 S0, .slice La ml Lc]) (.agg #[.int .i64 cd2, .int .i64 ch2, .int .i64 cl2, .int .i64 cv2, .int .i64 cu2, .int .i64 cx2, .int .i64 ct2, .int .i64 cn2]) m0 (by kernel_rfl) rfl ⟨_, rfl, rfl, rfl, rfl, by kernel_rfl⟩ ⟨_, rfl, rfl, rfl, rfl, by kernel_rfl⟩ ⟨_, rfl, rfl, rfl, rfl, by kernel_rfl⟩ ⟨_, rfl, rfl, rfl, rfl, by kernel_rfl⟩ ⟨_, rfl, rfl, rfl, rfl, by kernel_rfl⟩ ⟨_, rfl, rfl, rfl, rfl, by kernel_rfl⟩ ⟨_, rfl, rfl, rfl, rfl, by kernel_rfl⟩ ⟨_, rfl, rfl, rfl, rfl, by kernel_rfl⟩ ⟨_, rfl, rfl, rfl, rfl, by kernel_rfl⟩ ⟨_, rfl, rfl, rfl, rfl, by kernel_rfl⟩ ⟨_, rfl, rfl, rfl, rfl, by kernel_rfl⟩ w.heap.size (w.heap.size + 1 + 1) rfl rfl rfl rfl zB (fun W hW => run_load24 (L := ⟨La, ml, Lc⟩) (qa.kept hW)) (fun W hW => run_load26 (qd.kept hW)) (fun W hW => k9 W (below_then hb hW)) (fun W L Y hW hA => k12 W L Y hA) (Nat.le_of_ble_eq_true rfl) ?_
          intro a W6 hs hd hkp hb1 hv
          have e64 : a.tmps.getD 64 undef = .bool false := hv 10 64 (by decide) rfl
          have ep := frame_puts [54, 55, 56, 57, 58, 59, 60, 61, 62, 63, 64] hs hd (fun s h => hkp s (by intro i hi e; exact h (fitD_out i hi s e)))
          simp only [List.foldl] at ep
          rw [e64] at ep
          clear hs hd hkp hv e64
          generalize a.tmps.getD 54 undef = g54 at ep
          generalize a.tmps.getD 55 undef = g55 at ep
          generalize a.tmps.getD 56 undef = g56 at ep
          generalize a.tmps.getD 57 undef = g57 at ep
          generalize a.tmps.getD 58 undef = g58 at ep
          generalize a.tmps.getD 59 undef = g59 at ep
          generalize a.tmps.getD 60 undef = g60 at ep
          generalize a.tmps.getD 61 undef = g61 at ep
          generalize a.tmps.getD 62 undef = g62 at ep
          generalize a.tmps.getD 63 undef = g63 at ep
          simp only [Act.put, List.setIfInBounds_toArray, List.set_cons_succ, List.set_cons_zero] at ep
          subst ep
          replace hb := below_then hb hb1
          replace qa := qa.kept hb1
          replace q5 := q5.kept hb1
          replace ad5 := ad5.below hb1
          clear hb1 qd eV5
          obtain ⟨a0', a1', a2'⟩ := qa.c3
          obtain ⟨x0, x1, x2⟩ := q5.c3
          go_wp2
          go_ret
          exact ⟨rfl, hb⟩
      | false =>
        simp only [okd] at k6
        clear okd hz0 k9 k10 k12 k17 hwf agree
        go_enter Try.func3, Try.ntmps3
        go_wp2_with (first
          | (go_at_call 4; refine (kw _).mono ?_; rintro e W1 ⟨rfl, h1⟩; replace hb := below_then hb h1; replace qa := qa.kept h1; replace qc := qc.kept h1; replace qd := qd.kept h1; clear h1 kw; obtain ⟨a0', a1', a2'⟩ := qa.c3; obtain ⟨c0, c1, c2, c3, c4, c5, c6, c7⟩ := qc.cfg)
          | (go_at_call 5; refine (k13 _ hb).mono ?_; rintro e W2 ⟨rfl, h1⟩; replace hb := below_then hb h1; replace qa := qa.kept h1; replace qc := qc.kept h1; replace qd := qd.kept h1; clear h1 k13 a0' a1' a2' c0 c1 c2 c3 c4 c5 c6 c7; obtain ⟨d0, d1, d2, d3, d4, d5, d6, d7⟩ := qd.cfg)
          | (go_at_call 6; refine (k6 _).mono ?_; rintro e W3 ⟨rfl, h1⟩; replace hb := below_then hb h1; replace qa := qa.kept h1; replace qc := qc.kept h1; replace qd := qd.kept h1; clear h1 k6 d0 d1 d2 d3 d4 d5 d6 d7; obtain ⟨c0, c1, c2, c3, c4, c5, c6, c7⟩ := qc.cfg; obtain ⟨d0, d1, d2, d3, d4, d5, d6, d7⟩ := qd.cfg))
        go_ret
        exact ⟨rfl, hb⟩
    · obtain ⟨Z, eZ⟩ : ∃ z, checkA R0 S0 cd1 ch1 cl1 cv1 cu1 cx1 ct1 cn1 m0 = z := ⟨_, rfl⟩
      simp only [eZ] at k13
      rw [eZ] at hz0
      have z1 : (Z == 0) = false := by simp [hz0]
      have z2 : (Z != 0) = true := by simp [hz0]
      clear eZ hz0 k9 k10 k12 k17 hwf agree k6
      go_enter Try.func3, Try.ntmps3
      go_wp2_with (first
        | (go_at_call 4; refine (kw _).mono ?_; rintro e W1 ⟨rfl, h1⟩; replace hb := below_then hb h1; replace qa := qa.kept h1; replace qc := qc.kept h1; replace qd := qd.kept h1; clear h1 kw; obtain ⟨a0', a1', a2'⟩ := qa.c3; obtain ⟨c0, c1, c2, c3, c4, c5, c6, c7⟩ := qc.cfg)
        | (go_at_call 5; refine (k13 _ hb).mono ?_; rintro e W2 ⟨rfl, h1⟩; replace hb := below_then hb h1; replace qa := qa.kept h1; replace qc := qc.kept h1; replace qd := qd.kept h1; clear h1 k13 a0' a1' a2' c0 c1 c2 c3 c4 c5 c6 c7; obtain ⟨d0, d1, d2, d3, d4, d5, d6, d7⟩ := qd.cfg))
      go_ret
      exact ⟨rfl, hb⟩
  · obtain ⟨La, ml, Lc, eL⟩ : ∃ a n c, L0 = ⟨a, n, c⟩ := ⟨L0.a, L0.n, L0.c, rfl⟩
    subst eL
    have hn : ml = m0.ln := w0.len
    have hml : (20 : Int) < (ml : Int) := by omega
    have hmx : ml ≤ 9223372036854775807 := by omega
    have hb := below_new (below_new (below_new (Below.refl w.heap.size w) (.cells #[.int .i64 R0, .int .i64 S0, .slice La ml Lc] 24)) (.cells #[.int .i64 cd1, .int .i64 ch1, .int .i64 cl1, .int .i64 cv1, .int .i64 cu1, .int .i64 cx1, .int .i64 ct1, .int .i64 cn1] 26)) (.cells #[.int .i64 cd2, .int .i64 ch2, .int .i64 cl2, .int .i64 cv2, .int .i64 cu2, .int .i64 cx2, .int .i64 ct2, .int .i64 cn2] 26)
    have qa : Blk 24 (((w.alloc (.cells #[.int .i64 R0, .int .i64 S0, .slice La ml Lc] 24)).alloc (.cells #[.int .i64 cd1, .int .i64 ch1, .int .i64 cl1, .int .i64 cv1, .int .i64 cu1, .int .i64 cx1, .int .i64 ct1, .int .i64 cn1] 26)).alloc (.cells #[.int .i64 cd2, .int .i64 ch2, .int .i64 cl2, .int .i64 cv2, .int .i64 cu2, .int .i64 cx2, .int .i64 ct2, .int .i64 cn2] 26)) w.heap.size #[.int .i64 R0, .int .i64 S0, .slice La ml Lc] := ((Blk.new 24 w _).kept (below_new (Below.refl _ _) _)).kept (below_new (Below.refl _ _) _)
    have qc : Blk 26 (((w.alloc (.cells #[.int .i64 R0, .int .i64 S0, .slice La ml Lc] 24)).alloc (.cells #[.int .i64 cd1, .int .i64 ch1, .int .i64 cl1, .int .i64 cv1, .int .i64 cu1, .int .i64 cx1, .int .i64 ct1, .int .i64 cn1] 26)).alloc (.cells #[.int .i64 cd2, .int .i64 ch2, .int .i64 cl2, .int .i64 cv2, .int .i64 cu2, .int .i64 cx2, .int .i64 ct2, .int .i64 cn2] 26)) (w.heap.size + 1) #[.int .i64 cd1, .int .i64 ch1, .int .i64 cl1, .int .i64 cv1, .int .i64 cu1, .int .i64 cx1, .int .i64 ct1, .int .i64 cn1] := (Blk.new_at 26 (w.alloc _) _ _ (by simp)).kept (below_new (Below.refl _ _) _)
    have qd : Blk 26 (((w.alloc (.cells #[.int .i64 R0, .int .i64 S0, .slice La ml Lc] 24)).alloc (.cells #[.int .i64 cd1, .int .i64 ch1, .int .i64 cl1, .int .i64 cv1, .int .i64 cu1, .int .i64 cx1, .int .i64 ct1, .int .i64 cn1] 26)).alloc (.cells #[.int .i64 cd2, .int .i64 ch2, .int .i64 cl2, .int .i64 cv2, .int .i64 cu2, .int .i64 cx2, .int .i64 ct2, .int .i64 cn2] 26)) (w.heap.size + 1 + 1) #[.int .i64 cd2, .int .i64 ch2, .int .i64 cl2, .int .i64 cv2, .int .i64 cu2, .int .i64 cx2, .int .i64 ct2, .int .i64 cn2] := Blk.new_at 26 ((w.alloc _).alloc _) _ _ (by simp)
    clear hn w0 b0
    go_enter Try.func3, Try.ntmps3
    go_wp2_with (first | (go_at_call 4; refine (kw _).mono ?_; rintro e W1 ⟨rfl, h1⟩; replace hb := below_then hb h1; replace qa := qa.kept h1; replace qc := qc.kept h1; replace qd := qd.kept h1; clear h1 kw; obtain ⟨a0', a1', a2'⟩ := qa.c3; obtain ⟨c0, c1, c2, c3, c4, c5, c6, c7⟩ := qc.cfg))
    go_ret
    exact ⟨rfl, hb⟩

theorem contract (H : Type) (enc : TypeId × Value → H) (W : World) (base : Nat) (args : Array Value) (ds gs : List (DataW H)) (before : List MemPlace)
    (hval0 : ∀ (j : Nat) t v, Try.f3.params[j]? = some t → args[j]? = some v → Value.okWide Try.prog W .any base t v)
    (hW : DataW.Whole enc Try.prog Try.f3.params.toList Rows.graftFitsSpec.vars false W args.toList ds gs before)
    (hsz0 : (DataW.weightsEach Try.prog (Try.f3.params.toList ++ Rows.graftFitsSpec.plain.varTypes Try.prog) (ds ++ gs)).all (· ≤ reachBytes) = true) :
    Calls Try.prog 3 args W fun e W' => ∃ v, e = .returned v ∧ Rows.graftFitsSpec.post enc Try.prog Try.f3 false true false false W args v W' := by
  have hval : ∀ (j : Nat) t v, Try.f3.params[j]? = some t → args[j]? = some v → Value.okWide Try.prog W .any base t v := hval0
  have hW' := hW
  obtain ⟨p, q, hA0, hV, rfl, hfz, hnd⟩ := hW
  have hA : DataW.TrodAll enc Try.prog W 0 (fun _ => true) true Try.f3.params.toList args.toList ds p := hA0
  have hsz : (DataW.weightsEach Try.prog (Try.f3.params.toList ++ Rows.graftFitsSpec.plain.varTypes Try.prog) (ds ++ gs)).all (· ≤ reachBytes) = true := hsz0
  rw [Try.params3] at hA hval hsz
  obtain ⟨v0, vs0, d0, ds0, p0, q0, hargs, rfl, rfl, h0, r0⟩ := trodAll_cons hA
  obtain ⟨v1, vs1, d1, ds1, p1, q1, rfl, rfl, rfl, h1, r1⟩ := trodAll_cons r0
  obtain ⟨v2, vs2, d2, ds2, p2, q2, rfl, rfl, rfl, h2, r2⟩ := trodAll_cons r1
  obtain ⟨rfl, rfl, rfl⟩ := trodAll_nil r2
  obtain rfl : args = #[v0, v1, v2] := by cases args; simp_all
  obtain ⟨rfl, rfl⟩ := trodVars_none hV
  have k0 := h0
  have lt0 : ∀ x ∈ p0, x.block < W.heap.size := by obtain ⟨m, hm⟩ := k0; exact DataW.trod_lt m _ _ _ hm
  obtain ⟨R0, S0, L0, Y0, m0, rfl, rr0, ss0, w0, l0, f0⟩ := open_adapter (hval 0 24 v0 rfl rfl) h0
  have b0 : m0.ln ≤ 20 → FitsA m0 := f0 fun q hq => of_decide_eq_true (List.all_eq_true.1 hsz q (DataW.weights_mem_each (j := 0) rfl rfl q hq))
  have k1 := h1
  have lt1 : ∀ x ∈ p1, x.block < W.heap.size := by obtain ⟨m, hm⟩ := k1; exact DataW.trod_lt m _ _ _ hm
  obtain ⟨cd1, ch1, cl1, cv1, cu1, cx1, ct1, cn1, rfl⟩ := open_cfg (hval 1 26 v1 rfl rfl) h1
  have k2 := h2
  have lt2 : ∀ x ∈ p2, x.block < W.heap.size := by obtain ⟨m, hm⟩ := k2; exact DataW.trod_lt m _ _ _ hm
  obtain ⟨cd2, ch2, cl2, cv2, cu2, cx2, ct2, cn2, rfl⟩ := open_cfg (hval 2 26 v2 rfl rfl) h2
  clear hA0 hval0
  refine (walk R0 S0 L0 Y0 m0 cd1 ch1 cl1 cv1 cu1 cx1 ct1 cn1 cd2 ch2 cl2 cv2 cu2 cx2 ct2 cn2 W rr0 ss0 w0 l0   b0).mono fun e W' ⟨he, bel⟩ => ?_
  subst he
  exact ⟨_, rfl, _, _, _, [], _, [], hW', trodAll_mk1 (shut_bool Try.underlying4 _), (trodAll_cons_mk (Below.trod laidOut (by kernel_rfl) (of_decide_eq_true (by kernel_rfl)) k0 bel lt0) (trodAll_cons_mk (Below.trod laidOut (by kernel_rfl) (of_decide_eq_true (by kernel_rfl)) k1 bel lt1) (trodAll_cons_mk (Below.trod laidOut (by kernel_rfl) (of_decide_eq_true (by kernel_rfl)) k2 bel lt2) trodAll_mk0))), rfl, bel.frame _, fun h => by cases h⟩

set_option maxRecDepth 100000 in
theorem lifted (os : Os) (started : os.Started) (H : Type) (enc : TypeId × Value → H) :
    ReturnsInHanded {} Try.checked os 3 .any (Rows.graftFitsSpec.pre6 enc Try.prog Try.f3 Rows.graftFitsRow.domain false) (Rows.graftFitsSpec.post enc Try.prog Try.f3 false true false false) := by
  refine returnsInHanded_of_change_sized (C := Try.checked) own started (by kernel_rfl) Try.func3
    (ChangeSpec.witness6 (enc := enc) (C := Try.checked) false ⟨#[], #[.agg #[.int .i64 0, .int .i64 0, .slice none 0 0], .agg #[.int .i64 0, .int .i64 0, .int .i64 0, .int .i64 0, .int .i64 0, .int .i64 0, .int .i64 0, .int .i64 0], .agg #[.int .i64 0, .int .i64 0, .int .i64 0, .int .i64 0, .int .i64 0, .int .i64 0, .int .i64 0, .int .i64 0]], []⟩ 8 (by kernel_rfl) (by kernel_rfl) (by kernel_rfl) (by kernel_rfl)) ?_
  intro W base args ds gs before hval hW _ hsz _
  exact contract H enc W base args ds gs before hval hW hsz

theorem over : Rows.graftFitsRow.holds Try.pinned (OpenSpec.ofChange Rows.graftFitsSpec) :=
  OpenClaim.holds_of_wide 3 Try.f3 rfl rfl rfl rfl rfl rfl rfl ⟨rfl, rfl, rfl, rfl, rfl⟩ rfl rfl rfl rfl rfl (by kernel_rfl) Try.func3 (by kernel_rfl)
    (of_decide_eq_true (by kernel_rfl)) (by unfold Func.isWrapper; first | (rw [if_pos (by decide +kernel)]; kernel_rfl) | (rw [if_neg (by decide +kernel)]; exact ⟨rfl, rfl⟩))
    (fun os started H enc _ => lifted os started H enc)

theorem proved : Rows.GraftFitsSaid :=
  over
#print axioms proved
end Go.Proofs.Ytbmlafgolmmekab.graftFits
