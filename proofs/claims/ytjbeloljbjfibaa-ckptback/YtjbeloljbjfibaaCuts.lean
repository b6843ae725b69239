/- Bytes that are read are written as they were; bytes that are cut off are no model's: of texts alone. -/
import Derived.Test.YtjbeloljbjfibaaRows
import Derived.Test.YtjbeloljbjfibaaLayer8
import Derived.Test.YtjbeloljbjfibaaConf
import Derived.Test.YtjbeloljbjfibaaBlank
import Derived.Test.YtjbeloljbjfibaaCfgRef
import Derived.Test.YtjbeloljbjfibaaSize
import Derived.Test.YtjbeloljbjfibaaSizes
import Derived.Test.YtjbeloljbjfibaaSteps
import Derived.Test.YtjbeloljbjfibaaClo54
import Derived.Test.YtjbeloljbjfibaaFill
import Derived.Test.YtjbeloljbjfibaaMods
import Derived.Test.YtjbeloljbjfibaaFills
import Derived.Test.YtjbeloljbjfibaaShape
import Derived.Test.YtjbeloljbjfibaaShapes
import Derived.Test.YtjbeloljbjfibaaCheck
import Derived.Test.YtjbeloljbjfibaaChecks
import Derived.Test.YtjbeloljbjfibaaDims
import Derived.Test.YtjbeloljbjfibaaFlat
import Derived.Test.YtjbeloljbjfibaaNumbers
import Derived.Test.YtjbeloljbjfibaaPrefix
import Derived.Test.YtjbeloljbjfibaaBody
import Derived.Test.YtjbeloljbjfibaaDecode
import Derived.WalkKit
import Derived.ProofKit
import Derived.OpenShut
import Derived.Below
import Derived.WalkLawsBesides
import Derived.Deep.QuietTactic
import Derived.BigQuiet
import Derived.Deep.RegionWith
import Derived.Deep.RegionHeld3
import Derived.Deep.OwnRows
import Derived.Deep.Slices
import Derived.Test.YtjbeloljbjfibaaTrips
namespace Go.Proofs.Ytjbeloljbjfibaa
open Go.ChangeShapes Go.WideShapes Go.ChangeAt Go.RowKit
set_option linter.unusedVariables false

theorem two_split {s : ByteArray} {e : Int} (h : twoE s e = 0) : e = 0 ∧ s = two (twoV s e) ++ twoS s e := by
  unfold twoE at h
  by_cases he : e = 0
  · subst he
    rw [if_neg (by omega)] at h
    by_cases hs : s.size < 2
    · rw [if_pos hs] at h; omega
    · refine ⟨rfl, ?_⟩
      have c : ¬ ((0 : Int) ≠ 0 ∨ s.size < 2) := by omega
      have b0 := byteZ_lt s 0
      have b1 := byteZ_lt s 1
      have l0 := two_low (twoV s 0)
      have l1 := two_high (twoV s 0)
      have eV : twoV s 0 = byteZ s 0 + 256 * byteZ s 1 := by unfold twoV; rw [if_neg c]
      have eS : twoS s 0 = s.extract 2 s.size := by unfold twoS; rw [if_neg c]
      rw [eV] at l0 l1
      rw [eV, eS]
      have z2 := two_size ((byteZ s 0 : Int) + 256 * byteZ s 1)
      refine text_ext (by rw [ByteArray.size_append, z2, ByteArray.size_extract]; omega) fun i hi => ?_
      by_cases h2 : i < 2
      · rw [byteZ_left _ _ _ (by rw [z2]; exact h2)]
        rcases (show i = 0 ∨ i = 1 by omega) with rfl | rfl <;> omega
      · obtain ⟨j, rfl⟩ : ∃ j, i = 2 + j := ⟨i - 2, by omega⟩
        have := byteZ_right (two ((byteZ s 0 : Int) + 256 * byteZ s 1)) (s.extract 2 s.size) j (by rw [ByteArray.size_extract]; omega)
        rw [z2] at this
        rw [this, byteZ_part _ _ _ _ (Nat.le_refl _) (by omega)]
  · rw [if_pos he] at h; omega

theorem wts_split {s : ByteArray} {e n : Int} (h : wtE s e n = 0) : e = 0 ∧ 0 ≤ n ∧ n ≤ 65535 ∧ (wtV s e n).length = n.toNat ∧ s = wtsS (wtV s e n) ++ wtS s e n := by
  have h0 := h
  unfold wtE at h
  by_cases h1 : twoE s e = 0
  · rw [if_neg (by omega)] at h
    by_cases h2 : twoV s e = n
    · rw [if_neg (by omega)] at h
      by_cases h3 : ((twoS s e).size : Int) < n
      · rw [if_pos h3] at h; omega
      · obtain ⟨e0, sp⟩ := two_split h1
        have bd := twoV_bounds s e
        obtain ⟨T, eT⟩ : ∃ T, twoS s e = T := ⟨_, rfl⟩
        obtain ⟨k, hk⟩ : ∃ k : Nat, n = (k : Int) := ⟨n.toNat, by omega⟩
        subst hk
        have eV : wtV s e k = i8s T k := by unfold wtV; rw [if_pos h0, eT]; rfl
        have eS : wtS s e k = T.extract k T.size := by unfold wtS; rw [if_pos h0, eT]; rfl
        have hkT : k ≤ T.size := by rw [eT] at h3; omega
        refine ⟨e0, by omega, by omega, by rw [eV, i8s_length]; omega, ?_⟩
        rw [eV, eS]
        rw [h2, eT] at sp
        have hl := i8s_length T k
        have e2 : wtsS (i8s T k) = two (k : Int) ++ wtsB (i8s T k) := by unfold wtsS; rw [hl, show min k 65535 = k by omega]
        have e3 : wtsB (i8s T k) ++ T.extract k T.size = T := by
          have zB : (wtsB (i8s T k)).size = k := by rw [wtsB_size, hl]; omega
          refine text_ext (by rw [ByteArray.size_append, zB, ByteArray.size_extract]; omega) fun i hi => ?_
          rw [ByteArray.size_append, zB, ByteArray.size_extract] at hi
          by_cases hik : i < k
          · rw [byteZ_left _ _ _ (by omega)]
            have hm : (((i8s T k).take 65535).map (· % 256)).getD i 0 = (byteZ T i : Int) := by
              have lt := byteZ_lt T i
              have g : (i8s T k)[i]? = some (i8 (byteZ T i)) := by simp [i8s, hik]
              simp only [List.getD, List.getElem?_map, List.getElem?_take, if_pos (show i < 65535 by omega), g, Option.map_some, Option.getD_some]
              unfold i8
              omega
            have lt := byteZ_lt T i
            have := byteZ_of (((i8s T k).take 65535).map (· % 256)) i (by simp [hl]; omega) (by rw [hm]; omega) (by rw [hm]; omega)
            rw [hm] at this
            unfold wtsB
            omega
          · obtain ⟨j, rfl⟩ : ∃ j, i = k + j := ⟨i - k, by omega⟩
            have := byteZ_right (wtsB (i8s T k)) (T.extract k T.size) j (by rw [ByteArray.size_extract]; omega)
            rw [zB] at this
            rw [this, byteZ_part _ _ _ _ (Nat.le_refl _) (by omega)]
        rw [e2, ByteArray.append_assoc, e3]
        exact sp
    · rw [if_pos h2] at h; omega
  · rw [if_pos h1] at h; omega

theorem end_split {s : ByteArray} {e : Int} (h : endV s e = 0) : e = 0 ∧ s = ⟨#[]⟩ := by
  unfold endV at h
  split at h
  · omega
  · rename_i k
    exact ⟨h, empty_text fun h0 => k ⟨h, h0⟩⟩

theorem rd_step (b : ByteArray) (k : Nat) (h : (rdAt b (k + 1)).2 = 0) : (rdAt b k).2 = 0 ∧ (rdAt b k).1 = two (rdNum b k) ++ (rdAt b (k + 1)).1 := two_split h

/-- what is read well is what was written -/
theorem body_text {b : ByteArray} (h : rdEnd b = 0) : (rdWs b).length = (rdSize b).toNat ∧ rdSize b ≤ 65535 ∧ (∀ z ∈ rdWs b, (Lit.int .i8 z).wf = true) ∧
    b = two (rdNum b 0) ++ (two (rdNum b 1) ++ (two (rdNum b 2) ++ (two (rdNum b 3) ++ (two (rdNum b 4) ++ (two (rdNum b 5) ++ (two (rdNum b 6) ++ (two (rdNum b 7) ++ wtsS (rdWs b)))))))) := by
  obtain ⟨hE, hS⟩ := end_split h
  obtain ⟨e8, n0, n1, wl, s8⟩ := wts_split hE
  rw [hS, append_empty] at s8
  obtain ⟨e7, s7⟩ := rd_step b 7 e8
  obtain ⟨e6, s6⟩ := rd_step b 6 e7
  obtain ⟨e5, s5⟩ := rd_step b 5 e6
  obtain ⟨e4, s4⟩ := rd_step b 4 e5
  obtain ⟨e3, s3⟩ := rd_step b 3 e4
  obtain ⟨e2, s2⟩ := rd_step b 2 e3
  obtain ⟨e1, s1⟩ := rd_step b 1 e2
  obtain ⟨e0, s0⟩ := rd_step b 0 e1
  refine ⟨wl, n1, fun z hz => ?_, ?_⟩
  · have hz' : z ∈ wtV (rdAt b 8).1 (rdAt b 8).2 (rdSize b) := hz
    unfold wtV at hz'
    split at hz'
    · obtain ⟨y, _, rfl⟩ := List.mem_map.1 hz'
      exact wf_i8 _
    · cases hz'
  · have s0' : b = two (rdNum b 0) ++ (rdAt b 1).1 := s0
    have t7 := s7.trans (congrArg (two (rdNum b 7) ++ ·) s8)
    have t6 := s6.trans (congrArg (two (rdNum b 6) ++ ·) t7)
    have t5 := s5.trans (congrArg (two (rdNum b 5) ++ ·) t6)
    have t4 := s4.trans (congrArg (two (rdNum b 4) ++ ·) t5)
    have t3 := s3.trans (congrArg (two (rdNum b 3) ++ ·) t4)
    have t2 := s2.trans (congrArg (two (rdNum b 2) ++ ·) t3)
    have t1 := s1.trans (congrArg (two (rdNum b 1) ++ ·) t2)
    exact s0'.trans (congrArg (two (rdNum b 0) ++ ·) t1)

theorem sealed {s : ByteArray} (h : openE s = 0) : s = openT s ++ two (sumZ (openT s)) := by
  have e : openT s = front s := by unfold openT; rw [if_pos h]
  unfold openE at h
  by_cases h1 : s.size < 2
  · rw [if_pos h1] at h; omega
  · rw [if_neg h1] at h
    by_cases h2 : two (sumZ (front s)) = back s
    · rw [e, h2]; exact (front_back s).symm
    · rw [if_neg h2] at h; omega

theorem lettered {s : ByteArray} (h : avB s = true) : s = lettersS ++ bodyS s := by
  obtain ⟨h1, h2⟩ := of_decide_eq_true h
  have z : lettersS.size = 2 := rfl
  have e : s = s.extract 0 2 ++ bodyS s := by
    unfold bodyS
    have z2 : (s.extract 0 2).size = 2 := by rw [ByteArray.size_extract]; omega
    refine text_ext (by rw [ByteArray.size_append, z2, ByteArray.size_extract]; omega) fun i hi => ?_
    by_cases hi2 : i < 2
    · rw [byteZ_left _ _ _ (by omega), byteZ_part _ _ _ _ h1 (by omega), Nat.zero_add]
    · obtain ⟨j, rfl⟩ : ∃ j, i = 2 + j := ⟨i - 2, by omega⟩
      have := byteZ_right (s.extract 0 2) (s.extract 2 s.size) j (by rw [ByteArray.size_extract]; omega)
      rw [z2] at this
      rw [this, byteZ_part _ _ _ _ (Nat.le_refl _) (by omega)]
  rwa [h2] at e

/-- bytes that are read are written as they were -/
theorem dec_back {s : ByteArray} (h : decOK s = true) : okB (decC s 0) (decC s 1) (decC s 2) (decC s 3) (decC s 4) (decC s 5) (decC s 6) (decC s 7) = true ∧
    ∃ ws : List Int, ws.length = offs (cntOf (decC s 0) (decC s 2) (decC s 3) (decC s 4) (decC s 5)) (allT (decC s 2) (decC s 5)) ∧ (∀ z ∈ ws, (Lit.int .i8 z).wf = true) ∧ decM s = shapeV (decC s 0) (decC s 2) (decC s 3) (decC s 4) (decC s 5) ws ∧
      s = encS (decC s 0) (decC s 1) (decC s 2) (decC s 3) (decC s 4) (decC s 5) (decC s 6) (decC s 7) ws := by
  have h' := h
  unfold decOK at h'
  rw [Bool.and_eq_true] at h'
  obtain ⟨ht, hb⟩ := h'
  obtain ⟨t1, t2, t3⟩ := of_decide_eq_true ht
  unfold bodyOK at hb
  rw [Bool.and_eq_true] at hb
  obtain ⟨ro, re⟩ := hb
  have re' := of_decide_eq_true re
  obtain ⟨wl, n1, wf, tx⟩ := body_text re'
  have c : ∀ k, decC s k = rdNum (bodyS (openT s)) k := fun k => by unfold decC; rw [h]; rfl
  have m : decM s = bodyV (bodyS (openT s)) := by unfold decM; rw [h]; rfl
  have s1 := sealed t2
  have s2 := lettered t3
  obtain ⟨b, eb⟩ : ∃ b, bodyS (openT s) = b := ⟨_, rfl⟩
  simp only [eb] at c m wl n1 wf tx ro s2
  rw [m]
  simp only [c]
  have dm := dims_of ro
  have es : rdSize b = szZ (rdNum b 0) (rdNum b 2) (rdNum b 3) (rdNum b 4) (rdNum b 5) := by unfold rdSize sizeB; rw [show okB (rdNum b 0) (rdNum b 1) (rdNum b 2) (rdNum b 3) (rdNum b 4) (rdNum b 5) (rdNum b 6) (rdNum b 7) = true from ro]; rfl
  refine ⟨ro, rdWs b, by have := dm.sz; omega, wf, rfl, ?_⟩
  have e3 : headS (rdNum b 0) (rdNum b 1) (rdNum b 2) (rdNum b 3) (rdNum b 4) (rdNum b 5) (rdNum b 6) (rdNum b 7) ++ wtsS (rdWs b) = openT s := by
    refine Eq.trans ?_ s2.symm
    refine Eq.trans ?_ (congrArg (lettersS ++ ·) tx.symm)
    unfold headS lettersS
    simp only [ByteArray.append_assoc]
  unfold encS
  rw [e3]
  exact s1

theorem enc_text (d h l v u x t n : Int) (zs : List Int) : ∃ q, q.size = 2 ∧ encS d h l v u x t n zs = lettersS ++ (two d ++ (two h ++ (two l ++ (two v ++ (two u ++ (two x ++ (two t ++ (two n ++ (wtsS zs ++ q))))))))) := by
  refine ⟨two (sumZ (headS d h l v u x t n ++ wtsS zs)), two_size _, ?_⟩
  unfold encS sealS
  obtain ⟨q, eq⟩ : ∃ q, two (sumZ (headS d h l v u x t n ++ wtsS zs)) = q := ⟨_, rfl⟩
  rw [eq]
  unfold headS lettersS
  simp only [ByteArray.append_assoc]

theorem cut_text (s : ByteArray) (k : Nat) (hk : k ≤ s.size) : s = s.extract 0 k ++ s.extract k s.size := by
  have z : (s.extract 0 k).size = k := by rw [ByteArray.size_extract]; omega
  refine text_ext (by rw [ByteArray.size_append, z, ByteArray.size_extract]; omega) fun i hi => ?_
  by_cases h : i < k
  · rw [byteZ_left _ _ _ (by omega), byteZ_part _ _ _ _ hk (by omega), Nat.zero_add]
  · obtain ⟨j, rfl⟩ : ∃ j, i = k + j := ⟨i - k, by omega⟩
    have := byteZ_right (s.extract 0 k) (s.extract k s.size) j (by rw [ByteArray.size_extract]; omega)
    rw [z] at this
    rw [this, byteZ_part _ _ _ _ (Nat.le_refl _) (by omega)]

/-- a model's bytes, cut off -/
theorem cut_no {d h l v u x t n : Int} (ok : okB d h l v u x t n = true) (zs : List Int) (hl : zs.length = offs (cntOf d l v u x) (allT l x)) (k : Nat) (hk : k < (encS d h l v u x t n zs).size) : decOK ((encS d h l v u x t n zs).extract 0 k) = false := by
  cases hd : decOK ((encS d h l v u x t n zs).extract 0 k) with
  | false => rfl
  | true =>
    exfalso
    obtain ⟨q, zq, eq⟩ := enc_text d h l v u x t n zs
    have ct := cut_text (encS d h l v u x t n zs) k (by omega)
    obtain ⟨S, eS⟩ : ∃ S, encS d h l v u x t n zs = S := ⟨_, rfl⟩
    rw [eS] at hk hd eq ct
    obtain ⟨ok', ws, wl, _, _, es⟩ := dec_back hd
    obtain ⟨s', e'⟩ : ∃ s', S.extract 0 k = s' := ⟨_, rfl⟩
    have zr : (S.extract k S.size).size = S.size - k := by rw [ByteArray.size_extract]; omega
    obtain ⟨r, er⟩ : ∃ r, S.extract k S.size = r := ⟨_, rfl⟩
    rw [er] at zr
    rw [e'] at ok' wl es ct
    rw [er] at ct
    obtain ⟨d', e0⟩ : ∃ z, decC s' 0 = z := ⟨_, rfl⟩
    obtain ⟨h', e1⟩ : ∃ z, decC s' 1 = z := ⟨_, rfl⟩
    obtain ⟨l', e2⟩ : ∃ z, decC s' 2 = z := ⟨_, rfl⟩
    obtain ⟨v', e3⟩ : ∃ z, decC s' 3 = z := ⟨_, rfl⟩
    obtain ⟨u', e4⟩ : ∃ z, decC s' 4 = z := ⟨_, rfl⟩
    obtain ⟨x', e5⟩ : ∃ z, decC s' 5 = z := ⟨_, rfl⟩
    obtain ⟨t', e6⟩ : ∃ z, decC s' 6 = z := ⟨_, rfl⟩
    obtain ⟨n', e7⟩ : ∃ z, decC s' 7 = z := ⟨_, rfl⟩
    rw [e0, e1, e2, e3, e4, e5, e6, e7] at ok' es
    rw [e0, e2, e3, e4, e5] at wl
    obtain ⟨q', zq', eq'⟩ := enc_text d' h' l' v' u' x' t' n' ws
    rw [← es] at eq'
    rw [eq, eq'] at ct
    simp only [ByteArray.append_assoc] at ct
    have ct' := append_inj_right ct
    obtain ⟨a0, a1, a2, a3, a4, a5, a6, a7, a8⟩ := rd_head d h l v u x t n (wtsS zs ++ q) _ rfl ok
    rw [ct'] at a0 a1 a2 a3 a4 a5 a6 a7 a8
    obtain ⟨b0, b1, b2, b3, b4, b5, b6, b7, b8⟩ := rd_head d' h' l' v' u' x' t' n' (wtsS ws ++ (q' ++ r)) _ rfl ok'
    have f0 := a0.symm.trans b0
    have f2 := a2.symm.trans b2
    have f3 := a3.symm.trans b3
    have f4 := a4.symm.trans b4
    have f5 := a5.symm.trans b5
    have f8 := congrArg (fun p => p.1.size) (a8.symm.trans b8)
    rw [← f0, ← f2, ← f3, ← f4, ← f5] at wl
    simp only [ByteArray.size_append, wtsS_size, zq, zq'] at f8
    rw [hl, wl] at f8
    omega

end Go.Proofs.Ytjbeloljbjfibaa
