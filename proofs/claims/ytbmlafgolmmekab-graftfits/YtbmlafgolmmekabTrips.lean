/- There and back: what is written is read as it was, and bytes that are read are written as they were. -/
import Derived.Test.YtbmlafgolmmekabRows
import Derived.Test.YtbmlafgolmmekabView
import Derived.Test.YtbmlafgolmmekabOwn
import Derived.Test.YtbmlafgolmmekabCfg
import Derived.Test.YtbmlafgolmmekabCfgs
import Derived.Test.YtbmlafgolmmekabCfgRef
import Derived.Test.YtbmlafgolmmekabHeld
import Derived.Test.YtbmlafgolmmekabReader
import Derived.Test.YtbmlafgolmmekabSls
import Derived.Test.YtbmlafgolmmekabSteps
import Derived.Test.YtbmlafgolmmekabInv
import Derived.Test.YtbmlafgolmmekabTyped
import Derived.Test.YtbmlafgolmmekabAds
import Derived.Test.YtbmlafgolmmekabRanges
import Derived.Test.YtbmlafgolmmekabTexts
import Derived.Test.YtbmlafgolmmekabSums
import Derived.Test.YtbmlafgolmmekabSeals
import Derived.Test.YtbmlafgolmmekabOpens
import Derived.Test.YtbmlafgolmmekabWts
import Derived.Test.YtbmlafgolmmekabTwos
import Derived.Test.YtbmlafgolmmekabRdWts
import Derived.Test.YtbmlafgolmmekabPrefix
import Derived.Test.YtbmlafgolmmekabChange
import Derived.Test.YtbmlafgolmmekabBack
import Derived.Test.YtbmlafgolmmekabCheck
import Derived.Test.YtbmlafgolmmekabPlan
import Derived.Test.YtbmlafgolmmekabFlat
import Derived.Test.YtbmlafgolmmekabShape
import Derived.Test.YtbmlafgolmmekabShapes
import Derived.Test.YtbmlafgolmmekabBody
import Derived.Test.YtbmlafgolmmekabDecode
import Derived.Test.YtbmlafgolmmekabRefCheck
import Derived.Test.YtbmlafgolmmekabEnc
import Derived.WalkKit
import Derived.ProofKit
import Derived.OpenShut
import Derived.Below
import Derived.WalkLawsBesides
import Derived.Deep.QuietTactic
import Derived.BigQuiet
import Derived.Lib.QuietBelow
import Derived.Deep.RegionHeld3
namespace Go.Proofs.Ytbmlafgolmmekab
open Go.ChangeShapes Go.WideShapes Go.ChangeAt Go.RowKit
open Go.Sort hiding Below
set_option linter.unusedVariables false
set_option linter.unusedSimpArgs false

theorem letters_front (r : ByteArray) : (lettersS ++ r).extract 0 2 = lettersS := by
  have h2 : lettersS.size = 2 := rfl
  refine text_ext (by rw [ByteArray.size_extract, ByteArray.size_append, h2]; omega) fun i hi => ?_
  rw [ByteArray.size_extract, ByteArray.size_append, h2] at hi
  rw [byteZ_part _ 0 2 i (by rw [ByteArray.size_append, h2]; omega) (by omega), Nat.zero_add, byteZ_left _ _ _ (by omega)]

theorem letters_back (r : ByteArray) : (lettersS ++ r).extract 2 (lettersS ++ r).size = r := by
  have h2 : lettersS.size = 2 := rfl
  refine text_ext (by rw [ByteArray.size_extract, ByteArray.size_append, h2]; omega) fun i hi => ?_
  rw [ByteArray.size_extract, ByteArray.size_append, h2] at hi
  rw [byteZ_part _ 2 _ i (Nat.le_refl _) (by rw [ByteArray.size_append, h2]; omega)]
  have := byteZ_right lettersS r i (by omega)
  rwa [h2] at this

theorem mod_small {z : Int} (h0 : 0 ≤ z) (h1 : z < 65536) : z % 65536 = z := Int.emod_eq_of_lt h0 h1

theorem two_split {s : ByteArray} {e : Int} (h : twoE s e = 0) : e = 0 ∧ s = two (twoV s e) ++ twoS s e := by
  unfold twoE at h
  by_cases he : e = 0
  · subst he
    rw [if_neg (by omega)] at h
    by_cases hs : s.size < 2
    · rw [if_pos hs] at h; omega
    · refine ⟨rfl, ?_⟩
      have c : ¬ ((0 : Int) ≠ 0 ∨ s.size < 2) := by omega
      have b0 := byteZ_lt s 0
      have b1 := byteZ_lt s 1
      have l0 := two_low (twoV s 0)
      have l1 := two_high (twoV s 0)
      have eV : twoV s 0 = byteZ s 0 + 256 * byteZ s 1 := by unfold twoV; rw [if_neg c]
      have eS : twoS s 0 = s.extract 2 s.size := by unfold twoS; rw [if_neg c]
      rw [eV] at l0 l1
      rw [eV, eS]
      have z2 := two_size ((byteZ s 0 : Int) + 256 * byteZ s 1)
      refine text_ext (by rw [ByteArray.size_append, z2, ByteArray.size_extract]; omega) fun i hi => ?_
      by_cases h2 : i < 2
      · rw [byteZ_left _ _ _ (by rw [z2]; exact h2)]
        rcases (show i = 0 ∨ i = 1 by omega) with rfl | rfl <;> omega
      · obtain ⟨j, rfl⟩ : ∃ j, i = 2 + j := ⟨i - 2, by omega⟩
        have := byteZ_right (two ((byteZ s 0 : Int) + 256 * byteZ s 1)) (s.extract 2 s.size) j (by rw [ByteArray.size_extract]; omega)
        rw [z2] at this
        rw [this, byteZ_part _ _ _ _ (Nat.le_refl _) (by omega)]
  · rw [if_pos he] at h; omega

theorem wts_split {s : ByteArray} {e n : Int} (h : wtE s e n = 0) : e = 0 ∧ 0 ≤ n ∧ n ≤ 65535 ∧ (wtV s e n).length = n.toNat ∧ s = wtsS (wtV s e n) ++ wtS s e n := by
  have h0 := h
  unfold wtE at h
  by_cases h1 : twoE s e = 0
  · rw [if_neg (by omega)] at h
    by_cases h2 : twoV s e = n
    · rw [if_neg (by omega)] at h
      by_cases h3 : ((twoS s e).size : Int) < n
      · rw [if_pos h3] at h; omega
      · obtain ⟨e0, sp⟩ := two_split h1
        have bd := twoV_bounds s e
        obtain ⟨T, eT⟩ : ∃ T, twoS s e = T := ⟨_, rfl⟩
        obtain ⟨k, hk⟩ : ∃ k : Nat, n = (k : Int) := ⟨n.toNat, by omega⟩
        subst hk
        have eV : wtV s e k = i8s T k := by unfold wtV; rw [if_pos h0, eT]; rfl
        have eS : wtS s e k = T.extract k T.size := by unfold wtS; rw [if_pos h0, eT]; rfl
        have hkT : k ≤ T.size := by rw [eT] at h3; omega
        refine ⟨e0, by omega, by omega, by rw [eV, i8s_length]; omega, ?_⟩
        rw [eV, eS]
        rw [h2, eT] at sp
        have hl := i8s_length T k
        have e2 : wtsS (i8s T k) = two (k : Int) ++ wtsB (i8s T k) := by unfold wtsS; rw [hl, show min k 65535 = k by omega]
        have e3 : wtsB (i8s T k) ++ T.extract k T.size = T := by
          have zB : (wtsB (i8s T k)).size = k := by rw [wtsB_size, hl]; omega
          refine text_ext (by rw [ByteArray.size_append, zB, ByteArray.size_extract]; omega) fun i hi => ?_
          rw [ByteArray.size_append, zB, ByteArray.size_extract] at hi
          by_cases hik : i < k
          · rw [byteZ_left _ _ _ (by omega)]
            have hm : (((i8s T k).take 65535).map (· % 256)).getD i 0 = (byteZ T i : Int) := by
              have lt := byteZ_lt T i
              have g : (i8s T k)[i]? = some (i8 (byteZ T i)) := by simp [i8s, hik]
              simp only [List.getD, List.getElem?_map, List.getElem?_take, if_pos (show i < 65535 by omega), g, Option.map_some, Option.getD_some]
              unfold i8
              omega
            have lt := byteZ_lt T i
            have := byteZ_of (((i8s T k).take 65535).map (· % 256)) i (by simp [hl]; omega) (by rw [hm]; omega) (by rw [hm]; omega)
            rw [hm] at this
            unfold wtsB
            omega
          · obtain ⟨j, rfl⟩ : ∃ j, i = k + j := ⟨i - k, by omega⟩
            have := byteZ_right (wtsB (i8s T k)) (T.extract k T.size) j (by rw [ByteArray.size_extract]; omega)
            rw [zB] at this
            rw [this, byteZ_part _ _ _ _ (Nat.le_refl _) (by omega)]
        rw [e2, ByteArray.append_assoc, e3]
        exact sp
    · rw [if_pos h2] at h; omega
  · rw [if_pos h1] at h; omega

theorem end_split {s : ByteArray} {e : Int} (h : endV s e = 0) : e = 0 ∧ s = ⟨#[]⟩ := by
  unfold endV at h
  split at h
  · omega
  · rename_i k
    exact ⟨h, empty_text fun h0 => k ⟨h, h0⟩⟩

theorem sealed {s : ByteArray} (h : openE s = 0) : s = openT s ++ two (sumZ (openT s)) := by
  have e : openT s = front s := by unfold openT; rw [if_pos h]
  unfold openE at h
  by_cases h1 : s.size < 2
  · rw [if_pos h1] at h; omega
  · rw [if_neg h1] at h
    by_cases h2 : two (sumZ (front s)) = back s
    · rw [e, h2]; exact (front_back s).symm
    · rw [if_neg h2] at h; omega

theorem lettered {s : ByteArray} (h : grB s = true) : s = lettersS ++ bodyS s := by
  obtain ⟨h1, h2⟩ := of_decide_eq_true h
  have z : lettersS.size = 2 := rfl
  have e : s = s.extract 0 2 ++ bodyS s := by
    unfold bodyS
    have z2 : (s.extract 0 2).size = 2 := by rw [ByteArray.size_extract]; omega
    refine text_ext (by rw [ByteArray.size_append, z2, ByteArray.size_extract]; omega) fun i hi => ?_
    by_cases hi2 : i < 2
    · rw [byteZ_left _ _ _ (by omega), byteZ_part _ _ _ _ h1 (by omega), Nat.zero_add]
    · obtain ⟨j, rfl⟩ : ∃ j, i = 2 + j := ⟨i - 2, by omega⟩
      have := byteZ_right (s.extract 0 2) (s.extract 2 s.size) j (by rw [ByteArray.size_extract]; omega)
      rw [z2] at this
      rw [this, byteZ_part _ _ _ _ (Nat.le_refl _) (by omega)]
  rwa [h2] at e


theorem shape_checked {R S d h l v u x t n : Int} (ok : okA R S d h l v u x t n = true) (ws : List Int) (hl : (ws.length : Int) = l * 4 * (R * d)) : checkA R S d h l v u x t n (shapeV l.toNat (R * d).toNat ws) = 0 := by
  have nu := numsA_of ok
  have e1 := nu.hl
  have e2 := nu.hN
  have e3 := nu.hT
  have e4 := nu.hT'
  unfold checkA
  rw [if_pos ok, if_pos]
  refine ⟨e1.symm, lensA_iff.2 fun i hi j hj => ?_⟩
  have hi' : i < l.toNat := hi
  show ((segA (R * d).toNat ws (4 * i + j)).length : Int) = R * d
  rw [seg_length (R * d).toNat (4 * l.toNat) ws (by omega) (4 * i + j) (by omega)]
  exact e2.symm

theorem enc_open (R S : Int) (zs : List Int) : openT (encG R S zs) = lettersS ++ (two R ++ (two S ++ wtsS zs)) := by
  unfold encG
  rw [openT_seal]
  unfold headG lettersS
  simp only [ByteArray.append_assoc]
theorem enc_size (R S : Int) (zs : List Int) : (encG R S zs).size = 10 + min zs.length 65535 := by
  unfold encG
  rw [seal_size, ByteArray.size_append, headG_size, wtsS_size]
  omega

/-- what is written is read as it was -/
theorem dec_enc {R S d h l v u x t n : Int} (ok : okA R S d h l v u x t n = true) (zs : List Int) (hl : (zs.length : Int) = l * 4 * (R * d)) (hz : ∀ z ∈ zs, (Lit.int .i8 z).wf = true) :
    decOK d h l v u x t n (encG R S zs) = true ∧ decR d h l v u x t n (encG R S zs) = R ∧ decS d h l v u x t n (encG R S zs) = S ∧ decM d h l v u x t n (encG R S zs) = shapeV l.toNat (R * d).toNat zs ∧ decE d h l v u x t n (encG R S zs) = 0 := by
  have nu := numsA_of ok
  have r := rightA_of ok
  have e1 := nu.hl
  have e2 := nu.hN
  have e3 := nu.hT
  have t1 := nu.t1
  have eb := enc_open R S zs
  have es := enc_size R S zs
  have okc : okB d h l v u x t n = true := by unfold okA at ok; simp only [Bool.and_eq_true] at ok; exact ok.1
  obtain ⟨s, eS⟩ : ∃ s, encG R S zs = s := ⟨_, rfl⟩
  have oe : openE s = 0 := by rw [← eS]; exact openE_seal _
  rw [eS] at eb es ⊢
  obtain ⟨b, hb⟩ : ∃ b, b = two R ++ (two S ++ wtsS zs) := ⟨_, rfl⟩
  rw [← hb] at eb
  have ebody : bodyS (openT s) = b := by unfold bodyS; rw [eb]; exact letters_back b
  have av : grB (openT s) = true := decide_eq_true ⟨by rw [eb, ByteArray.size_append]; show 2 ≤ 2 + _; omega, by rw [eb]; exact letters_front b⟩
  have tx : txtOK s = true := decide_eq_true ⟨by rw [es]; omega, oe, av⟩
  obtain ⟨f1, f2, f3⟩ := two_front R (two S ++ wtsS zs)
  rw [← hb] at f1 f2 f3
  obtain ⟨g1, g2, g3⟩ := two_front S (wtsS zs)
  have aR : rk b = R := by unfold rk; rw [f1]; exact mod_small (by have := r.r0; omega) (by have := r.r1; omega)
  have aS : sf b = S := by unfold sf; rw [f2, f3, g1]; exact mod_small (by have := r.s0; omega) (by have := r.s1; omega)
  have aT : tl b = wtsS zs := by unfold tl; rw [f2, f3, g2]
  have aE : te b = 0 := by unfold te; rw [f2, f3, g3]
  have rZ : rdZ d l b = (zs.length : Int) := by unfold rdZ; rw [aR]; omega
  obtain ⟨w1, w2, w3⟩ := wts_front zs ⟨#[]⟩ (by omega) hz
  rw [append_empty] at w1 w2 w3
  have rW : rdWs d l b = zs := by unfold rdWs; rw [aT, aE, rZ]; exact w1
  have rE : rdE d l b = 0 := by unfold rdE; rw [aT, aE, rZ]; exact w3
  have rEnd : rdEnd d l b = 0 := by unfold rdEnd; rw [rE, aT, aE, rZ, w2]; rfl
  have bOK : bodyOK d h l v u x t n b = true := by unfold bodyOK; rw [aR, aS, ok, rEnd]; rfl
  have dOK : decOK d h l v u x t n s = true := by unfold decOK; rw [okc, tx, ebody, bOK]; rfl
  refine ⟨dOK, ?_, ?_, ?_, ?_⟩
  · unfold decR; rw [if_pos dOK, ebody]; exact aR
  · unfold decS; rw [if_pos dOK, ebody]; exact aS
  · unfold decM bodyM; rw [if_pos dOK, ebody, aR, rW]
  · unfold decE; rw [if_pos dOK]

/-- bytes that are read are written as they were -/
theorem dec_back {d h l v u x t n : Int} {s : ByteArray} (h' : decOK d h l v u x t n s = true) : okA (decR d h l v u x t n s) (decS d h l v u x t n s) d h l v u x t n = true ∧ checkA (decR d h l v u x t n s) (decS d h l v u x t n s) d h l v u x t n (decM d h l v u x t n s) = 0 ∧ encV (decR d h l v u x t n s) (decS d h l v u x t n s) d h l v u x t n (decM d h l v u x t n s) = s := by
  have hd := h'
  unfold decOK at h'
  rw [Bool.and_eq_true, Bool.and_eq_true] at h'
  obtain ⟨okc, ht, hb⟩ := h'
  obtain ⟨t1, t2, t3⟩ := of_decide_eq_true ht
  unfold bodyOK at hb
  rw [Bool.and_eq_true] at hb
  obtain ⟨ro, re⟩ := hb
  have re' := of_decide_eq_true re
  have s1 := sealed t2
  have s2 := lettered t3
  obtain ⟨b, eb⟩ : ∃ b, bodyS (openT s) = b := ⟨_, rfl⟩
  have cR : decR d h l v u x t n s = rk b := by unfold decR; rw [if_pos hd, eb]
  have cS : decS d h l v u x t n s = sf b := by unfold decS; rw [if_pos hd, eb]
  have cM : decM d h l v u x t n s = bodyM d l b := by unfold decM; rw [if_pos hd, eb]
  rw [eb] at ro re' s2
  rw [cR, cS, cM]
  have wl := rdWs_len d l b re'
  have nu := numsA_of ro
  have e1 := nu.hl
  have e2 := nu.hN
  have e3 := nu.hT
  have e4 := nu.hT'
  have hZ : rdZ d l b = l * 4 * (rk b * d) := rfl
  have wl' : ((rdWs d l b).length : Int) = l * 4 * (rk b * d) := by rw [hZ] at wl; omega
  have ck : checkA (rk b) (sf b) d h l v u x t n (bodyM d l b) = 0 := shape_checked ro _ wl'
  refine ⟨ro, ck, ?_⟩
  unfold encV
  rw [if_pos ck]
  have fl : flatA (bodyM d l b) = rdWs d l b := flat_shape l.toNat (rk b * d).toNat _ (by omega)
  rw [fl]
  obtain ⟨hE, hS⟩ := end_split re'
  obtain ⟨e8, n0, n1, wl2, s8⟩ := wts_split hE
  rw [hS, append_empty] at s8
  obtain ⟨e7, s7⟩ := two_split e8
  obtain ⟨e6, s6⟩ := two_split e7
  have tx : b = two (rk b) ++ (two (sf b) ++ wtsS (rdWs d l b)) := by
    have t7 := s7.trans (congrArg (two (sf b) ++ ·) s8)
    exact s6.trans (congrArg (two (rk b) ++ ·) t7)
  have e3' : headG (rk b) (sf b) ++ wtsS (rdWs d l b) = openT s := by
    refine Eq.trans ?_ s2.symm
    refine Eq.trans ?_ (congrArg (lettersS ++ ·) tx.symm)
    unfold headG lettersS
    simp only [ByteArray.append_assoc]
  unfold encG
  rw [e3']
  exact s1.symm

/-- no Rank nought is read well, and nothing else is told than Malformed -/
theorem dec_no {d h l v u x t n : Int} {s : ByteArray} (h' : decOK d h l v u x t n s = false) : decR d h l v u x t n s = 0 ∧ decE d h l v u x t n s = 1 := by
  unfold decR decE
  rw [h']
  exact ⟨rfl, rfl⟩

end Go.Proofs.Ytbmlafgolmmekab
