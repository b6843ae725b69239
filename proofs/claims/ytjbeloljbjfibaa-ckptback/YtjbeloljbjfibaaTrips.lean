/- There and back: what is shaped is checked and flat again; what is written is read as it was. -/
import Derived.Test.YtjbeloljbjfibaaRows
import Derived.Test.YtjbeloljbjfibaaLayer8
import Derived.Test.YtjbeloljbjfibaaConf
import Derived.Test.YtjbeloljbjfibaaBlank
import Derived.Test.YtjbeloljbjfibaaCfgRef
import Derived.Test.YtjbeloljbjfibaaSize
import Derived.Test.YtjbeloljbjfibaaSizes
import Derived.Test.YtjbeloljbjfibaaSteps
import Derived.Test.YtjbeloljbjfibaaClo54
import Derived.Test.YtjbeloljbjfibaaFill
import Derived.Test.YtjbeloljbjfibaaMods
import Derived.Test.YtjbeloljbjfibaaFills
import Derived.Test.YtjbeloljbjfibaaShape
import Derived.Test.YtjbeloljbjfibaaShapes
import Derived.Test.YtjbeloljbjfibaaCheck
import Derived.Test.YtjbeloljbjfibaaChecks
import Derived.Test.YtjbeloljbjfibaaDims
import Derived.Test.YtjbeloljbjfibaaFlat
import Derived.Test.YtjbeloljbjfibaaNumbers
import Derived.Test.YtjbeloljbjfibaaPrefix
import Derived.Test.YtjbeloljbjfibaaBody
import Derived.Test.YtjbeloljbjfibaaDecode
import Derived.WalkKit
import Derived.ProofKit
import Derived.OpenShut
import Derived.Below
import Derived.WalkLawsBesides
import Derived.Deep.QuietTactic
import Derived.BigQuiet
import Derived.Deep.RegionWith
import Derived.Deep.RegionHeld3
import Derived.Deep.OwnRows
import Derived.Deep.Slices
namespace Go.Proofs.Ytjbeloljbjfibaa
open Go.ChangeShapes Go.WideShapes Go.ChangeAt Go.RowKit
set_option linter.unusedVariables false


theorem seq_of (ln ne : Nat) (S : Nat → List Int) (k : Nat) (hk : k < 1 + ln * pl ne + 2) : seqOf (ofSeq ln ne S) ne k = S k := by
  rcases plan_cases ln ne k hk with rfl | ⟨i, r, hi, hr, rfl⟩ | ⟨i, j, hi, hj, rfl | rfl⟩ | rfl | rfl
  · rfl
  · exact seqOf_list (ofSeq ln ne S) ne i r hi hr
  · exact seqOf_up (ofSeq ln ne S) ne i j hi hj
  · exact seqOf_down (ofSeq ln ne S) ne i j hi hj
  · exact seqOf_norm (ofSeq ln ne S) ne
  · exact seqOf_out (ofSeq ln ne S) ne

theorem seg_len (cnt : Nat → Nat) (T : Nat) (ws : List Int) (h : ws.length = offs cnt T) (k : Nat) (hk : k < T) : (seg cnt ws k).length = cnt k := by
  have := offs_mono cnt (show k + 1 ≤ T by omega)
  have e : offs cnt (k + 1) = offs cnt k + cnt k := rfl
  unfold seg
  rw [List.length_take, List.length_drop]
  omega

theorem flat_seg (cnt : Nat → Nat) (ws : List Int) (k : Nat) : flatTo (seg cnt ws) k = ws.take (offs cnt k) := by
  induction k with
  | zero => rfl
  | succ k ih => rw [flat_succ, ih]; show _ = ws.take (offs cnt k + cnt k); rw [List.take_add]; rfl

theorem flat_congr {S S' : Nat → List Int} {T : Nat} (h : ∀ k, k < T → S k = S' k) : flatTo S T = flatTo S' T := by
  unfold flatTo
  exact Go.Deep.flatMap_congr_range h

theorem lens_congr {S S' : Nat → List Int} {cnt : Nat → Nat} {T : Nat} (h : ∀ k, k < T → S k = S' k) : lensZ S cnt T = lensZ S' cnt T := by
  induction T with
  | zero => rfl
  | succ T ih =>
    show (if _ then _ else _) = (if _ then _ else _)
    rw [h T (by omega), ih fun k hk => h k (by omega)]

theorem shape_checked {d h l v u x t n : Int} (ok : okB d h l v u x t n = true) (ws : List Int) (hl : ws.length = offs (cntOf d l v u x) (allT l x)) : checkB d h l v u x t n (shapeV d l v u x ws) = 0 := by
  have dm := dims_of ok
  have fr : framedB l x (shapeV d l v u x ws) = true := decide_eq_true ⟨dm.el.symm, fun i hi => ⟨dm.en.symm, dm.en.symm⟩⟩
  unfold checkB
  rw [ok, fr]
  show lensZ _ _ _ = 0
  refine lens_ok _ _ _ fun k hk => ?_
  have : seqOf (shapeV d l v u x ws) (netsN x) k = seg (cntOf d l v u x) ws k := seq_of _ _ _ k hk
  rw [this]
  exact seg_len _ _ ws hl k hk

theorem shape_flat {d l v u x : Int} (ws : List Int) (hl : ws.length = offs (cntOf d l v u x) (allT l x)) : flatV x l (shapeV d l v u x ws) = ws := by
  unfold flatV
  have e : flatTo (seqOf (shapeV d l v u x ws) (netsN x)) (allT l x) = flatTo (seg (cntOf d l v u x) ws) (allT l x) := flat_congr fun k hk => seq_of _ _ _ k hk
  rw [e, flat_seg, ← hl, List.take_length]

theorem letters_front (r : ByteArray) : (lettersS ++ r).extract 0 2 = lettersS := by
  have h2 : lettersS.size = 2 := rfl
  refine text_ext (by rw [ByteArray.size_extract, ByteArray.size_append, h2]; omega) fun i hi => ?_
  rw [ByteArray.size_extract, ByteArray.size_append, h2] at hi
  rw [byteZ_part _ 0 2 i (by rw [ByteArray.size_append, h2]; omega) (by omega), Nat.zero_add, byteZ_left _ _ _ (by omega)]

theorem letters_back (r : ByteArray) : (lettersS ++ r).extract 2 (lettersS ++ r).size = r := by
  have h2 : lettersS.size = 2 := rfl
  refine text_ext (by rw [ByteArray.size_extract, ByteArray.size_append, h2]; omega) fun i hi => ?_
  rw [ByteArray.size_extract, ByteArray.size_append, h2] at hi
  rw [byteZ_part _ 2 _ i (Nat.le_refl _) (by rw [ByteArray.size_append, h2]; omega)]
  have := byteZ_right lettersS r i (by omega)
  rwa [h2] at this

theorem mod_small {z : Int} (h0 : 0 ≤ z) (h1 : z < 65536) : z % 65536 = z := Int.emod_eq_of_lt h0 h1

/-- what stands behind the letters, read number by number -/
theorem rd_head (d h l v u x t n : Int) (r : ByteArray) (b : ByteArray) (hb : b = two d ++ (two h ++ (two l ++ (two v ++ (two u ++ (two x ++ (two t ++ (two n ++ r)))))))) (ok : okB d h l v u x t n = true) :
    rdNum b 0 = d ∧ rdNum b 1 = h ∧ rdNum b 2 = l ∧ rdNum b 3 = v ∧ rdNum b 4 = u ∧ rdNum b 5 = x ∧ rdNum b 6 = t ∧ rdNum b 7 = n ∧ rdAt b 8 = (r, 0) := by
  have R := right_of ok
  have step : ∀ k z q, rdAt b k = (two z ++ q, 0) → rdNum b k = z % 65536 ∧ rdAt b (k + 1) = (q, 0) := fun k z q e => by
    obtain ⟨f1, f2, f3⟩ := two_front z q
    unfold rdNum
    show _ ∧ (twoS (rdAt b k).1 (rdAt b k).2, twoE (rdAt b k).1 (rdAt b k).2) = _
    rw [e]
    exact ⟨f1, by rw [f2, f3]⟩
  obtain ⟨a0, s1⟩ := step 0 d _ (by rw [hb]; rfl)
  obtain ⟨a1, s2⟩ := step 1 h _ s1
  obtain ⟨a2, s3⟩ := step 2 l _ s2
  obtain ⟨a3, s4⟩ := step 3 v _ s3
  obtain ⟨a4, s5⟩ := step 4 u _ s4
  obtain ⟨a5, s6⟩ := step 5 x _ s5
  obtain ⟨a6, s7⟩ := step 6 t _ s6
  obtain ⟨a7, s8⟩ := step 7 n _ s7
  rw [mod_small (by have := R.d0; omega) (by have := R.d1; omega)] at a0
  rw [mod_small (by have := R.h0; omega) (by have := R.h1; omega)] at a1
  rw [mod_small (by have := R.l0; omega) (by have := R.l1; omega)] at a2
  rw [mod_small (by have := R.v0; omega) (by have := R.v1; omega)] at a3
  rw [mod_small (by have := R.u0; omega) (by have := R.u1; omega)] at a4
  rw [mod_small (by have := R.x0; omega) (by have := R.x1; omega)] at a5
  rw [mod_small (by have := R.t0; omega) (by have := R.t1; omega)] at a6
  rw [mod_small (by have := R.n0; omega) (by have := R.n1; omega)] at a7
  exact ⟨a0, a1, a2, a3, a4, a5, a6, a7, s8⟩

theorem enc_body (d h l v u x t n : Int) (zs : List Int) : openT (encS d h l v u x t n zs) = lettersS ++ (two d ++ (two h ++ (two l ++ (two v ++ (two u ++ (two x ++ (two t ++ (two n ++ wtsS zs)))))))) := by
  unfold encS
  rw [openT_seal]
  unfold headS lettersS
  simp only [ByteArray.append_assoc]

theorem enc_size (d h l v u x t n : Int) (zs : List Int) : (encS d h l v u x t n zs).size = 22 + min zs.length 65535 := by
  unfold encS
  rw [seal_size, ByteArray.size_append, headS_size, wtsS_size]
  omega

/-- what is written is read as it was -/
theorem dec_enc {d h l v u x t n : Int} (ok : okB d h l v u x t n = true) (zs : List Int) (hl : zs.length = offs (cntOf d l v u x) (allT l x)) (hz : ∀ z ∈ zs, (Lit.int .i8 z).wf = true) :
    decOK (encS d h l v u x t n zs) = true ∧ decC (encS d h l v u x t n zs) 0 = d ∧ decC (encS d h l v u x t n zs) 1 = h ∧ decC (encS d h l v u x t n zs) 2 = l ∧ decC (encS d h l v u x t n zs) 3 = v ∧ decC (encS d h l v u x t n zs) 4 = u ∧
      decC (encS d h l v u x t n zs) 5 = x ∧ decC (encS d h l v u x t n zs) 6 = t ∧ decC (encS d h l v u x t n zs) 7 = n ∧ decM (encS d h l v u x t n zs) = shapeV d l v u x zs := by
  have dm := dims_of ok
  have sz := dm.sz
  have sz1 := dm.sz1
  have eb := enc_body d h l v u x t n zs
  have es := enc_size d h l v u x t n zs
  obtain ⟨s, eS⟩ : ∃ s, encS d h l v u x t n zs = s := ⟨_, rfl⟩
  have oe : openE s = 0 := by rw [← eS]; exact openE_seal _
  rw [eS] at eb es ⊢
  obtain ⟨b, hb⟩ : ∃ b, b = two d ++ (two h ++ (two l ++ (two v ++ (two u ++ (two x ++ (two t ++ (two n ++ wtsS zs))))))) := ⟨_, rfl⟩
  rw [← hb] at eb
  have ebody : bodyS (openT s) = b := by unfold bodyS; rw [eb]; exact letters_back b
  have av : avB (openT s) = true := decide_eq_true ⟨by rw [eb, ByteArray.size_append]; show 2 ≤ 2 + _; omega, by rw [eb]; exact letters_front b⟩
  have tx : txtOK s = true := decide_eq_true ⟨by rw [es]; omega, oe, av⟩
  obtain ⟨a0, a1, a2, a3, a4, a5, a6, a7, a8⟩ := rd_head d h l v u x t n (wtsS zs) b hb ok
  have rOK : rdOK b = true := by unfold rdOK; rw [a0, a1, a2, a3, a4, a5, a6, a7]; exact ok
  have rS : rdSize b = (zs.length : Int) := by
    unfold rdSize sizeB
    rw [a0, a1, a2, a3, a4, a5, a6, a7, ok]
    show szZ d l v u x = _
    omega
  obtain ⟨w1, w2, w3⟩ := wts_front zs ⟨#[]⟩ (by omega) hz
  rw [append_empty] at w1 w2 w3
  have rW : rdWs b = zs := by unfold rdWs; rw [a8, rS]; exact w1
  have rE : rdE b = 0 := by unfold rdE; rw [a8, rS]; exact w3
  have rEnd : rdEnd b = 0 := by unfold rdEnd; rw [rE, a8, rS, w2]; rfl
  have bOK : bodyOK b = true := by unfold bodyOK; rw [rOK, rEnd]; rfl
  have dOK : decOK s = true := by unfold decOK; rw [tx, ebody, bOK]; rfl
  have c : ∀ k, decC s k = rdNum b k := fun k => by unfold decC; rw [dOK, ebody]; rfl
  refine ⟨dOK, (c 0).trans a0, (c 1).trans a1, (c 2).trans a2, (c 3).trans a3, (c 4).trans a4, (c 5).trans a5, (c 6).trans a6, (c 7).trans a7, ?_⟩
  unfold decM
  rw [dOK, ebody]
  show bodyV b = _
  unfold bodyV
  rw [a0, a2, a3, a4, a5, rW]

end Go.Proofs.Ytjbeloljbjfibaa
