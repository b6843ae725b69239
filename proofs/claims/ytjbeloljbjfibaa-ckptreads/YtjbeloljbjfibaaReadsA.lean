/- Shape of any weights, the document's Decode of any text; CkptReads' region. -/
import Derived.Test.YtjbeloljbjfibaaRows
import Derived.Test.YtjbeloljbjfibaaLayer8
import Derived.Test.YtjbeloljbjfibaaConf
import Derived.Test.YtjbeloljbjfibaaBlank
import Derived.Test.YtjbeloljbjfibaaCfgRef
import Derived.Test.YtjbeloljbjfibaaSize
import Derived.Test.YtjbeloljbjfibaaSizes
import Derived.Test.YtjbeloljbjfibaaSteps
import Derived.Test.YtjbeloljbjfibaaClo54
import Derived.Test.YtjbeloljbjfibaaFill
import Derived.Test.YtjbeloljbjfibaaMods
import Derived.Test.YtjbeloljbjfibaaFills
import Derived.Test.YtjbeloljbjfibaaShape
import Derived.Test.YtjbeloljbjfibaaShapes
import Derived.Test.YtjbeloljbjfibaaCheck
import Derived.Test.YtjbeloljbjfibaaChecks
import Derived.Test.YtjbeloljbjfibaaDims
import Derived.Test.YtjbeloljbjfibaaFlat
import Derived.Test.YtjbeloljbjfibaaNumbers
import Derived.Test.YtjbeloljbjfibaaPrefix
import Derived.Test.YtjbeloljbjfibaaBody
import Derived.Test.YtjbeloljbjfibaaDecode
import Derived.WalkKit
import Derived.ProofKit
import Derived.OpenShut
import Derived.Below
import Derived.WalkLawsBesides
import Derived.Deep.QuietTactic
import Derived.BigQuiet
import Derived.Deep.RegionWith
import Derived.Deep.RegionHeld3
import Derived.Deep.OwnRows
import Derived.Deep.Slices
import Derived.Test.YtjbeloljbjfibaaTrips
import Derived.Test.YtjbeloljbjfibaaInv
import Derived.Test.YtjbeloljbjfibaaBuild
import Derived.Test.YtjbeloljbjfibaaTypedC
import Derived.Test.YtjbeloljbjfibaaEqWorks
import Derived.Test.YtjbeloljbjfibaaCuts
import Derived.Test.YtjbeloljbjfibaaSameLM
import Derived.Test.YtjbeloljbjfibaaOwns
import Derived.Test.YtjbeloljbjfibaaJoin
import Derived.Test.YtjbeloljbjfibaaShp
import Derived.Test.YtjbeloljbjfibaaShpFew
import Derived.Test.YtjbeloljbjfibaaShpMany
import Derived.Test.YtjbeloljbjfibaaRefDec
import Derived.Test.YtjbeloljbjfibaaMore
namespace Go.Proofs.Ytjbeloljbjfibaa
open Go.ChangeShapes Go.WideShapes Go.ChangeAt Go.RowKit
set_option linter.unusedVariables false

/-- what Shape says of weights: are they shaped, the configuration, the error, the model -/
def shG (d h l v u x t n : Int) (zs : List Int) : Bool := okB d h l v u x t n && decide ((zs.length : Int) = szZ d l v u x)
def shC (g : Bool) (z : Int) : Int := if g then z else 0
def shE (d h l v u x t n : Int) (zs : List Int) : Int := if okB d h l v u x t n then (if (zs.length : Int) = szZ d l v u x then 0 else 21) else 20
def shM (d h l v u x t n : Int) (zs : List Int) : ModV := if shG d h l v u x t n zs then shapeV d l v u x zs else noV

theorem shape_any (d h l v u x t n : Int) (s : SL) (zs : List Int) (w : World) (hs : IsS w s zs) :
    Calls Try.prog 24 #[.agg #[.int .i64 d, .int .i64 h, .int .i64 l, .int .i64 v, .int .i64 u, .int .i64 x, .int .i64 t, .int .i64 n], .slice s.a s.n s.c] w fun e w' => ∃ E L N O : SL, ∃ Y U D', e = .returned (.tuple #[.agg #[.int .i64 (shC (shG d h l v u x t n zs) d), .int .i64 (shC (shG d h l v u x t n zs) h), .int .i64 (shC (shG d h l v u x t n zs) l), .int .i64 (shC (shG d h l v u x t n zs) v), .int .i64 (shC (shG d h l v u x t n zs) u), .int .i64 (shC (shG d h l v u x t n zs) x), .int .i64 (shC (shG d h l v u x t n zs) t), .int .i64 (shC (shG d h l v u x t n zs) n), .slice E.a E.n E.c, .slice L.a L.n L.c, .slice N.a N.n N.c, .slice O.a O.n O.c], .int .i64 (shE d h l v u x t n zs)]) ∧ NewM w.heap.size w' E L N O Y U D' (shM d h l v u x t n zs) ∧ Below w.heap.size w w' := by
  have hlen := hs.reads.len
  cases ok : okB d h l v u x t n with
  | false =>
    have e1 : (shG d h l v u x t n zs) = false := by unfold shG; rw [ok]; rfl
    have e2 : shE d h l v u x t n zs = 20 := by unfold shE; rw [ok]; rfl
    have e3 : shM d h l v u x t n zs = noV := by unfold shM; rw [e1]; rfl
    have e4 : ∀ z, shC (shG d h l v u x t n zs) z = 0 := fun z => by unfold shC; rw [e1]; rfl
    simp only [e2, e3, e4]
    exact (shape_bad d h l v u x t n ok s.a s.n s.c w).mono fun e w' hh => ⟨⟨none, 0, 0⟩, ⟨none, 0, 0⟩, ⟨none, 0, 0⟩, ⟨none, 0, 0⟩, fun _ _ => SL.nought, fun _ _ => SL.nought, fun _ _ => SL.nought, hh.1, NewM.none_ _ _ _ _ _, hh.2⟩
  | true =>
    by_cases hl : (zs.length : Int) = szZ d l v u x
    · have e1 : (shG d h l v u x t n zs) = true := by unfold shG; rw [ok]; simp [hl]
      have e2 : shE d h l v u x t n zs = 0 := by unfold shE; rw [ok]; simp [hl]
      have e3 : shM d h l v u x t n zs = shapeV d l v u x zs := by unfold shM; rw [e1]; rfl
      have e4 : ∀ z, shC (shG d h l v u x t n zs) z = z := fun z => by unfold shC; rw [e1]; rfl
      simp only [e2, e3, e4]
      have dm := dims_of ok
      obtain ⟨xa, hx⟩ := hs.reads.some_ (by have := dm.sz; have := dm.sz0; omega)
      have hr := hs.reads
      have hc := hs.cap
      rw [hx] at hr ⊢
      exact shape_good d h l v u x t n ok xa s.n s.c zs w hr hc (by omega)
    · have e1 : (shG d h l v u x t n zs) = false := by unfold shG; rw [ok]; simp [hl]
      have e2 : shE d h l v u x t n zs = 21 := by unfold shE; rw [ok]; simp [hl]
      have e3 : shM d h l v u x t n zs = noV := by unfold shM; rw [e1]; rfl
      have e4 : ∀ z, shC (shG d h l v u x t n zs) z = 0 := fun z => by unfold shC; rw [e1]; rfl
      simp only [e2, e3, e4]
      exact (shape_len d h l v u x t n ok s.a s.n s.c (by omega) w).mono fun e w' hh => ⟨⟨none, 0, 0⟩, ⟨none, 0, 0⟩, ⟨none, 0, 0⟩, ⟨none, 0, 0⟩, fun _ _ => SL.nought, fun _ _ => SL.nought, fun _ _ => SL.nought, hh.1, NewM.none_ _ _ _ _ _, hh.2⟩

theorem refShape_any (d h l v u x t n : Int) (s : SL) (zs : List Int) (w : World) (hs : IsS w s zs) :
    Calls Try.prog 25 #[.agg #[.int .i64 d, .int .i64 h, .int .i64 l, .int .i64 v, .int .i64 u, .int .i64 x, .int .i64 t, .int .i64 n], .slice s.a s.n s.c] w fun e w' => ∃ E L N O : SL, ∃ Y U D', e = .returned (.tuple #[.agg #[.int .i64 (shC (shG d h l v u x t n zs) d), .int .i64 (shC (shG d h l v u x t n zs) h), .int .i64 (shC (shG d h l v u x t n zs) l), .int .i64 (shC (shG d h l v u x t n zs) v), .int .i64 (shC (shG d h l v u x t n zs) u), .int .i64 (shC (shG d h l v u x t n zs) x), .int .i64 (shC (shG d h l v u x t n zs) t), .int .i64 (shC (shG d h l v u x t n zs) n), .slice E.a E.n E.c, .slice L.a L.n L.c, .slice N.a N.n N.c, .slice O.a O.n O.c], .int .i64 (shE d h l v u x t n zs)]) ∧ NewM w.heap.size w' E L N O Y U D' (shM d h l v u x t n zs) ∧ Below w.heap.size w w' := by
  have hlen := hs.reads.len
  cases ok : okB d h l v u x t n with
  | false =>
    have e1 : (shG d h l v u x t n zs) = false := by unfold shG; rw [ok]; rfl
    have e2 : shE d h l v u x t n zs = 20 := by unfold shE; rw [ok]; rfl
    have e3 : shM d h l v u x t n zs = noV := by unfold shM; rw [e1]; rfl
    have e4 : ∀ z, shC (shG d h l v u x t n zs) z = 0 := fun z => by unfold shC; rw [e1]; rfl
    simp only [e2, e3, e4]
    exact (refShape_bad d h l v u x t n ok s.a s.n s.c w).mono fun e w' hh => ⟨⟨none, 0, 0⟩, ⟨none, 0, 0⟩, ⟨none, 0, 0⟩, ⟨none, 0, 0⟩, fun _ _ => SL.nought, fun _ _ => SL.nought, fun _ _ => SL.nought, hh.1, NewM.none_ _ _ _ _ _, hh.2⟩
  | true =>
    by_cases hl : (zs.length : Int) = szZ d l v u x
    · have e1 : (shG d h l v u x t n zs) = true := by unfold shG; rw [ok]; simp [hl]
      have e2 : shE d h l v u x t n zs = 0 := by unfold shE; rw [ok]; simp [hl]
      have e3 : shM d h l v u x t n zs = shapeV d l v u x zs := by unfold shM; rw [e1]; rfl
      have e4 : ∀ z, shC (shG d h l v u x t n zs) z = z := fun z => by unfold shC; rw [e1]; rfl
      simp only [e2, e3, e4]
      have dm := dims_of ok
      obtain ⟨xa, hx⟩ := hs.reads.some_ (by have := dm.sz; have := dm.sz0; omega)
      have hr := hs.reads
      have hc := hs.cap
      rw [hx] at hr ⊢
      exact refShape_good d h l v u x t n ok xa s.n s.c zs w hr hc (by omega)
    · have e1 : (shG d h l v u x t n zs) = false := by unfold shG; rw [ok]; simp [hl]
      have e2 : shE d h l v u x t n zs = 21 := by unfold shE; rw [ok]; simp [hl]
      have e3 : shM d h l v u x t n zs = noV := by unfold shM; rw [e1]; rfl
      have e4 : ∀ z, shC (shG d h l v u x t n zs) z = 0 := fun z => by unfold shC; rw [e1]; rfl
      simp only [e2, e3, e4]
      exact (refShape_len d h l v u x t n ok s.a s.n s.c (by omega) w).mono fun e w' hh => ⟨⟨none, 0, 0⟩, ⟨none, 0, 0⟩, ⟨none, 0, 0⟩, ⟨none, 0, 0⟩, fun _ _ => SL.nought, fun _ _ => SL.nought, fun _ _ => SL.nought, hh.1, NewM.none_ _ _ _ _ _, hh.2⟩

theorem rdAt_size (b : ByteArray) (k : Nat) : (rdAt b k).1.size ≤ b.size := by
  induction k with
  | zero => exact Nat.le_refl _
  | succ k ih => exact Nat.le_trans (twoS_size _ _) ih

theorem refDecode_call (s : ByteArray) (w : World) (hs : s.size ≤ 9223372036854775805) : Calls Try.prog 23 #[.string s] w fun e w' => ∃ E L N O : SL, ∃ Y U D', e = .returned (.tuple #[.agg #[.int .i64 (decC s 0), .int .i64 (decC s 1), .int .i64 (decC s 2), .int .i64 (decC s 3), .int .i64 (decC s 4), .int .i64 (decC s 5), .int .i64 (decC s 6), .int .i64 (decC s 7), .slice E.a E.n E.c, .slice L.a L.n L.c, .slice N.a N.n N.c, .slice O.a O.n O.c], .int .i64 (decE s)]) ∧ NewM w.heap.size w' E L N O Y U D' (decM s) ∧ Below w.heap.size w w' := by
  have k50 := fun W => refOpen_call s W hs
  have ts : (openT s).size ≤ 9223372036854775805 := by
    unfold openT
    split
    · have := front_size s; omega
    · show 0 ≤ _; omega
  have no : decOK s = false → (Calls Try.prog 23 #[.string s] w fun e w' => e = .returned (.tuple #[.agg #[.int .i64 0, .int .i64 0, .int .i64 0, .int .i64 0, .int .i64 0, .int .i64 0, .int .i64 0, .int .i64 0, nilS, nilS, nilS, nilS], .int .i64 1]) ∧ Below w.heap.size w w') → Calls Try.prog 23 #[.string s] w fun e w' => ∃ E L N O : SL, ∃ Y U D', e = .returned (.tuple #[.agg #[.int .i64 (decC s 0), .int .i64 (decC s 1), .int .i64 (decC s 2), .int .i64 (decC s 3), .int .i64 (decC s 4), .int .i64 (decC s 5), .int .i64 (decC s 6), .int .i64 (decC s 7), .slice E.a E.n E.c, .slice L.a L.n L.c, .slice N.a N.n N.c, .slice O.a O.n O.c], .int .i64 (decE s)]) ∧ NewM w.heap.size w' E L N O Y U D' (decM s) ∧ Below w.heap.size w w' := fun hd hc =>
    hc.mono fun e w' hh => by
      have e1 : ∀ k, decC s k = 0 := fun k => by unfold decC; rw [hd]; rfl
      have e2 : decM s = noV := by unfold decM; rw [hd]; rfl
      have e3 : decE s = 1 := by unfold decE; rw [hd]; rfl
      simp only [e1, e2, e3]
      exact ⟨⟨none, 0, 0⟩, ⟨none, 0, 0⟩, ⟨none, 0, 0⟩, ⟨none, 0, 0⟩, fun _ _ => SL.nought, fun _ _ => SL.nought, fun _ _ => SL.nought, hh.1, NewM.none_ _ _ _ _ _, hh.2⟩
  by_cases ho : openE s = 0
  · simp only [ho] at k50
    by_cases hl : s.size ≤ 16384
    · by_cases ht : (openT s).size < 2
      · have hd : decOK s = false := by unfold decOK; rw [show txtOK s = false from decide_eq_false fun k => by have := of_decide_eq_true k.2.2; omega]; rfl
        exact no hd (refDecode_two s w _ hs ts k50 (by omega) (by omega) ht)
      · by_cases ha : (openT s).extract 0 2 = lettersS
        · have av : avB (openT s) = true := decide_eq_true ⟨by omega, ha⟩
          have tx : txtOK s = true := decide_eq_true ⟨hl, ho, av⟩
          have hp : ((openT s).extract 0 2).toList == [65, 86] := by rw [ha, letters_list]; rfl
          obtain ⟨b, eb⟩ : ∃ b, bodyS (openT s) = b := ⟨_, rfl⟩
          have bsz : b.size ≤ 9223372036854775805 := by rw [← eb]; unfold bodyS; rw [ByteArray.size_extract]; omega
          have c : ∀ k b' W, Rd 75 W b' (rdAt b k).1 (rdAt b k).2 → Calls Try.prog 51 #[.pointer (some ⟨b', 0, none⟩)] W fun r w' => r = .returned (.int .i64 (rdNum b k)) ∧ Rd 75 w' b' (rdAt b (k + 1)).1 (rdAt b (k + 1)).2 ∧ Only b' W w' := fun k b' W hh => refTwo_reader hh (by have := rdAt_size b k; omega)
          have k10 := refConfig_call (rdNum b 0) (rdNum b 1) (rdNum b 2) (rdNum b 3) (rdNum b 4) (rdNum b 5) (rdNum b 6) (rdNum b 7)
          have k12 := refSize_call (rdNum b 0) (rdNum b 1) (rdNum b 2) (rdNum b 3) (rdNum b 4) (rdNum b 5) (rdNum b 6) (rdNum b 7)
          have k52 : ∀ b' W, Rd 75 W b' (rdAt b 8).1 (rdAt b 8).2 → Calls Try.prog 52 #[.pointer (some ⟨b', 0, none⟩), .int .i64 (rdSize b)] W fun r w' => (∃ a m c, r = .returned (.slice a m c) ∧ Reads .i8 w' a m (rdWs b) ∧ m ≤ c ∧ (a = none → c = 0)) ∧ Rd 75 w' b' (wtS (rdAt b 8).1 (rdAt b 8).2 (rdSize b)) (rdE b) ∧ Only b' W w' := fun b' W hh => refWeights_reader hh (rdSize b) (by have := rdAt_size b 8; omega)
          have k53 : ∀ b' W, Rd 75 W b' (wtS (rdAt b 8).1 (rdAt b 8).2 (rdSize b)) (rdE b) → Calls Try.prog 53 #[.pointer (some ⟨b', 0, none⟩)] W fun r w' => r = .returned (.int .i64 (rdEnd b)) ∧ w' = W := fun b' W hh => refEnd_reader hh
          cases ok : rdOK b with
          | false =>
            have hd : decOK s = false := by unfold decOK bodyOK; rw [eb, ok, Bool.false_and, Bool.and_false]
            have ok' := ok
            unfold rdOK at ok'
            simp only [ok'] at k10
            exact no hd (refDecode_cfg s _ _ _ _ _ _ _ _ _ _ _ _ _ _ _ _ _ _ _ _ _ _ _ _ _ _ w hs ts k50 (by omega) (by simp; omega) (by simp; omega) (by omega) ht (by omega) _ rfl hp eb (c 0) (c 1) (c 2) (c 3) (c 4) (c 5) (c 6) (c 7) k10)
          | true =>
            have ok' := ok
            unfold rdOK at ok'
            simp only [ok'] at k10
            by_cases he : rdEnd b = 0
            · have hB : bodyOK b = true := by unfold bodyOK; rw [ok]; simp [he]
              have hd : decOK s = true := by unfold decOK; rw [tx, eb, hB]; rfl
              have e1 : ∀ k, decC s k = rdNum b k := fun k => by unfold decC; rw [hd, eb]; rfl
              have e2 : decM s = bodyV b := by unfold decM; rw [hd, eb]; rfl
              have e3 : decE s = 0 := by unfold decE; rw [hd]; rfl
              simp only [e1, e2, e3]
              simp only [he] at k53
              have h1 := rdWs_len b he
              have dm := dims_of ok'
              have h3 : rdSize b = szZ (rdNum b 0) (rdNum b 2) (rdNum b 3) (rdNum b 4) (rdNum b 5) := by unfold rdSize sizeB; rw [ok']; rfl
              have h4 := dm.sz0
              have h5 := dm.sz
              exact refDecode_good s _ _ _ _ _ _ _ _ _ _ _ _ _ _ _ _ _ _ _ _ _ _ _ _ _ _ w hs ts k50 (by omega) (by simp; omega) (by simp; omega) (by omega) ht (by omega) _ rfl hp eb (c 0) (c 1) (c 2) (c 3) (c 4) (c 5) (c 6) (c 7) (rdSize b) (rdWs b) _ _ (bodyV b) k10 k12 k52 k53 (by omega) (fun W xa wn wc rd hcap => refShape_good _ _ _ _ _ _ _ _ ok' xa wn wc (rdWs b) W rd hcap (by have := rd.len; omega))
            · have hB : bodyOK b = false := by unfold bodyOK; simp [he]
              have hd : decOK s = false := by unfold decOK; rw [eb, hB, Bool.and_false]
              exact no hd (refDecode_end s _ _ _ _ _ _ _ _ _ _ _ _ _ _ _ _ _ _ _ _ _ _ _ _ _ _ w hs ts k50 (by omega) (by simp; omega) (by simp; omega) (by omega) ht (by omega) _ rfl hp eb (c 0) (c 1) (c 2) (c 3) (c 4) (c 5) (c 6) (c 7) (rdSize b) (rdWs b) _ _ _ k10 k12 k52 k53 (by simp [he]) (by simp [he]))
        · have hd : decOK s = false := by unfold decOK; rw [show txtOK s = false from decide_eq_false fun k => by have := of_decide_eq_true k.2.2; exact ha this.2]; rfl
          have hp : (((openT s).extract 0 2).toList == [65, 86]) = false := by rw [← letters_list]; exact text_other ha
          exact no hd (refDecode_av s w _ hs ts k50 (by omega) (by simp; omega) (by simp; omega) (by omega) ht _ rfl hp)
    · have hd : decOK s = false := by unfold decOK; rw [show txtOK s = false from decide_eq_false fun k => hl k.1]; rfl
      exact no hd (refDecode_long s w _ hs ts k50 (by omega))
  · have hd : decOK s = false := by unfold decOK; rw [show txtOK s = false from decide_eq_false fun k => ho k.2.1]; rfl
    exact no hd (refDecode_e s w _ _ hs ts k50 (by simp [ho]) (by simp [ho]))

end Go.Proofs.Ytjbeloljbjfibaa
