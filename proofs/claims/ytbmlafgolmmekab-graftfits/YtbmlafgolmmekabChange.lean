/- What is sealed is opened; with one byte changed it is not: of texts alone. -/
import Derived.Test.YtbmlafgolmmekabRows
import Derived.Test.YtbmlafgolmmekabView
import Derived.Test.YtbmlafgolmmekabOwn
import Derived.Test.YtbmlafgolmmekabTexts
import Derived.Test.YtbmlafgolmmekabSums
import Derived.Test.YtbmlafgolmmekabSeals
import Derived.Test.YtbmlafgolmmekabOpens
import Derived.WalkKit
import Derived.ProofKit
namespace Go.Proofs.Ytbmlafgolmmekab
set_option linter.unusedVariables false

theorem text_ext {a b : ByteArray} (h : a.size = b.size) (hb : ∀ i, i < a.size → byteZ a i = byteZ b i) : a = b := by
  apply ByteArray.ext
  apply Array.ext
  · exact h
  · intro i h1 h2
    have := hb i h1
    rw [← byteZ_at a i h1, ← byteZ_at b i h2] at this
    exact UInt8.toNat_inj.1 this

theorem byteZ_part (s : ByteArray) (a b i : Nat) (hb : b ≤ s.size) (hi : a + i < b) : byteZ (s.extract a b) i = byteZ s (a + i) := by
  have h : i < (s.extract a b).size := by rw [ByteArray.size_extract]; omega
  unfold byteZ
  rw [dif_pos h, dif_pos (by omega), ByteArray.getElem_extract]

theorem byteZ_left (s u : ByteArray) (i : Nat) (hi : i < s.size) : byteZ (s ++ u) i = byteZ s i := by
  have h : i < (s ++ u).size := by rw [ByteArray.size_append]; omega
  unfold byteZ
  rw [dif_pos h, dif_pos hi, ByteArray.getElem_append_left hi]

theorem byteZ_right (s u : ByteArray) (i : Nat) (hi : i < u.size) : byteZ (s ++ u) (s.size + i) = byteZ u i := by
  have h : s.size + i < (s ++ u).size := by rw [ByteArray.size_append]; omega
  unfold byteZ
  rw [dif_pos h, dif_pos hi, ByteArray.getElem_append_right (by omega)]
  simp

theorem byteZ_of (zs : List Int) (i : Nat) (hi : i < zs.length) (h0 : 0 ≤ zs.getD i 0) (h1 : zs.getD i 0 < 256) : (byteZ (bytesOf zs) i : Int) = zs.getD i 0 := by
  have h : i < (bytesOf zs).size := by rw [bytesOf_size]; exact hi
  have e : zs.getD i 0 = zs[i] := by simp [List.getD, hi]
  rw [e] at h0 h1 ⊢
  unfold byteZ
  rw [dif_pos h]
  have : (bytesOf zs)[i]'h = UInt8.ofNat (zs[i]).toNat := by
    show (bytesOf zs).data[i] = _
    simp [bytesOf]
  rw [this, UInt8.toNat_ofNat']
  omega

theorem two_low (n : Int) : (byteZ (two n) 0 : Int) = n % 256 := byteZ_of [n % 256, n / 256 % 256] 0 (by simp) (by simp; omega) (by simp; omega)
theorem two_high (n : Int) : (byteZ (two n) 1 : Int) = n / 256 % 256 := byteZ_of [n % 256, n / 256 % 256] 1 (by simp) (by simp; omega) (by simp; omega)
theorem two_inj {x y : Int} (hx : 0 ≤ x ∧ x < 65536) (hy : 0 ≤ y ∧ y < 65536) (h : two x = two y) : x = y := by
  have a := two_low x
  have b := two_high x
  rw [h, two_low] at a
  rw [h, two_high] at b
  omega

theorem aTo_same {s u : ByteArray} : ∀ k, (∀ i, i < k → byteZ s i = byteZ u i) → aTo s k = aTo u k
  | 0, _ => rfl
  | k + 1, h => by
    simp only [aTo]
    rw [aTo_same k (fun i hi => h i (by omega)), h k (by omega)]

theorem aTo_other {s u : ByteArray} {p : Nat} (hp : ∀ i, i ≠ p → byteZ s i = byteZ u i) : ∀ k, p < k → (aTo u k - aTo s k - ((byteZ u p : Int) - byteZ s p)) % 255 = 0
  | 0, h => by omega
  | k + 1, h => by
    simp only [aTo]
    by_cases e : p = k
    · subst e
      rw [aTo_same (s := s) (u := u) p (fun i hi => hp i (by omega))]
      omega
    · have ih := aTo_other hp k (by omega)
      rw [hp k (by omega)]
      omega

theorem seal_size (s : ByteArray) : (sealS s).size = s.size + 2 := by
  unfold sealS
  rw [ByteArray.size_append, two_size]
theorem front_of {s u : ByteArray} (hu : u.size = 2) : front (s ++ u) = s := by
  have hs : (s ++ u).size = s.size + 2 := by rw [ByteArray.size_append, hu]
  unfold front
  rw [hs]
  apply text_ext
  · rw [ByteArray.size_extract]; omega
  · intro i hi
    rw [ByteArray.size_extract] at hi
    rw [byteZ_part _ _ _ _ (by omega) (by omega)]
    rw [show 0 + i = i by omega]
    exact byteZ_left _ _ _ (by omega)
theorem back_of {s u : ByteArray} (hu : u.size = 2) : back (s ++ u) = u := append_inj_right (a := s) (by
  have := front_back (s ++ u)
  rwa [front_of hu] at this)

theorem openE_seal (s : ByteArray) : openE (sealS s) = 0 := by
  unfold openE
  rw [if_neg (by rw [seal_size]; omega)]
  unfold sealS
  rw [front_of (two_size _), back_of (two_size _), if_pos rfl]
theorem openT_seal (s : ByteArray) : openT (sealS s) = s := by
  unfold openT
  rw [if_pos (openE_seal s)]
  unfold sealS
  rw [front_of (two_size _)]

/-- a sealed text with one byte changed -/
theorem openE_changed {s u : ByteArray} {p : Nat} (hu : u.size = s.size + 2) (hp : p < s.size + 2) (he : ∀ i, i ≠ p → byteZ (sealS s) i = byteZ u i) (hd : byteZ (sealS s) p ≠ byteZ u p)
    (hq : p < s.size → byteZ (sealS s) p % 255 ≠ byteZ u p % 255) : openE u = 24 := by
  unfold openE
  rw [if_neg (by omega), if_neg]
  intro h
  have hf : (front u).size = s.size := by unfold front; rw [ByteArray.size_extract]; omega
  have hfb : ∀ i, i < s.size → byteZ (front u) i = byteZ u i := fun i hi => by
    unfold front
    rw [byteZ_part _ _ _ _ (by omega) (by omega)]
    congr 1
    omega
  have hbb : ∀ i, i < 2 → byteZ (back u) i = byteZ u (s.size + i) := fun i hi => by
    unfold back
    rw [byteZ_part _ _ _ _ (by omega) (by omega)]
    congr 1
    omega
  have hsl : ∀ i, i < s.size → byteZ (sealS s) i = byteZ s i := fun i hi => byteZ_left _ _ _ hi
  have hsr : ∀ i, i < 2 → byteZ (sealS s) (s.size + i) = byteZ (two (sumZ s)) i := fun i hi => byteZ_right _ _ _ (by rw [two_size]; exact hi)
  by_cases hps : p < s.size
  · have e2 : two (sumZ (front u)) = two (sumZ s) := by
      rw [h]
      apply text_ext
      · unfold back; rw [ByteArray.size_extract, two_size]; omega
      · intro i hi
        have hi2 : i < 2 := by unfold back at hi; rw [ByteArray.size_extract] at hi; omega
        rw [hbb i hi2, ← hsr i hi2, he _ (by omega)]
    have e3 := two_inj (sumZ_bounds _) (sumZ_bounds _) e2
    have a1 := aTo_bounds (front u) s.size
    have a2 := aTo_bounds s s.size
    have b1 := bTo_bounds (front u) s.size
    have b2 := bTo_bounds s s.size
    unfold sumZ at e3
    rw [hf] at e3
    have ea : aTo (front u) s.size = aTo s s.size := by omega
    have hz : ∀ (v : ByteArray) i, v.size ≤ i → byteZ v i = 0 := fun v i hi => by unfold byteZ; rw [dif_neg (by omega)]
    have ch := aTo_other (s := s) (u := front u) (p := p) (fun i hi => by
      by_cases h1 : i < s.size
      · rw [hfb i h1, ← hsl i h1, he i hi]
      · rw [hz _ _ (by omega), hz _ _ (by omega)]) s.size hps
    rw [ea, hfb p hps, ← hsl p hps] at ch
    have := hq hps
    omega
  · have ef : front u = s := by
      apply text_ext hf
      intro i hi
      rw [hfb i (by omega), ← he i (by omega), hsl i (by omega)]
    rw [ef] at h
    apply hd
    obtain ⟨j, rfl⟩ : ∃ j, p = s.size + j := ⟨p - s.size, by omega⟩
    rw [hsr j (by omega), h, hbb j (by omega)]

end Go.Proofs.Ytbmlafgolmmekab
