/- Numbers and weights that are written one behind the other are read again: of texts alone. -/
import Derived.Test.YtbmlafgolmmekabRows
import Derived.Test.YtbmlafgolmmekabView
import Derived.Test.YtbmlafgolmmekabOwn
import Derived.Test.YtbmlafgolmmekabTexts
import Derived.Test.YtbmlafgolmmekabSums
import Derived.Test.YtbmlafgolmmekabSeals
import Derived.Test.YtbmlafgolmmekabOpens
import Derived.Test.YtbmlafgolmmekabWts
import Derived.Test.YtbmlafgolmmekabReader
import Derived.Test.YtbmlafgolmmekabTwos
import Derived.Test.YtbmlafgolmmekabRdWts
import Derived.Test.YtbmlafgolmmekabChange
import Derived.WalkKit
import Derived.ProofKit
namespace Go.Proofs.Ytbmlafgolmmekab
set_option linter.unusedVariables false

/-- the first k numbers written, each with the text C behind it -/
def txtTo (zs : List Int) (C : ByteArray) : Nat → ByteArray
  | 0 => ⟨#[]⟩
  | k + 1 => txtTo zs C k ++ two (zs.getD k 0) ++ C
/-- those from k on, so many -/
def restTo (zs : List Int) (C : ByteArray) : Nat → Nat → ByteArray
  | _, 0 => ⟨#[]⟩
  | k, m + 1 => two (zs.getD k 0) ++ (C ++ restTo zs C (k + 1) m)

theorem empty_append (a : ByteArray) : (⟨#[]⟩ : ByteArray) ++ a = a := by
  apply ByteArray.ext
  simp [ByteArray.data_append]
theorem append_empty (a : ByteArray) : a ++ (⟨#[]⟩ : ByteArray) = a := by
  apply ByteArray.ext
  simp [ByteArray.data_append]

theorem txt_rest (zs : List Int) (C : ByteArray) : ∀ m k, txtTo zs C k ++ restTo zs C k m = txtTo zs C (k + m)
  | 0, k => append_empty _
  | m + 1, k => by
    have := txt_rest zs C m (k + 1)
    rw [show k + 1 + m = k + (m + 1) by omega] at this
    rw [← this]
    simp only [restTo, txtTo, ByteArray.append_assoc]
theorem txt_all (zs : List Int) (C : ByteArray) (m : Nat) : txtTo zs C m = restTo zs C 0 m := by
  have := txt_rest zs C m 0
  rw [show 0 + m = m by omega] at this
  rw [← this]
  exact empty_append _
theorem txt_size (zs : List Int) (C : ByteArray) : ∀ k, (txtTo zs C k).size = k * (2 + C.size)
  | 0 => by simp only [txtTo, Nat.zero_mul]; rfl
  | k + 1 => by
    simp only [txtTo, ByteArray.size_append, two_size, txt_size zs C k]
    rw [Nat.add_mul]
    omega

theorem two_front (n : Int) (t : ByteArray) : twoV (two n ++ t) 0 = n % 65536 ∧ twoS (two n ++ t) 0 = t ∧ twoE (two n ++ t) 0 = 0 := by
  have hs : (two n ++ t).size = 2 + t.size := by rw [ByteArray.size_append, two_size]
  have b0 := two_low n
  have b1 := two_high n
  refine ⟨?_, ?_, ?_⟩
  · unfold twoV
    rw [if_neg (by omega), byteZ_left _ _ _ (by rw [two_size]; omega), byteZ_left _ _ _ (by rw [two_size]; omega), b0, b1]
    omega
  · unfold twoS
    rw [if_neg (by omega)]
    apply text_ext
    · rw [ByteArray.size_extract]; omega
    · intro i hi
      rw [ByteArray.size_extract] at hi
      rw [byteZ_part _ _ _ _ (by omega) (by omega)]
      have := byteZ_right (two n) t i (by omega)
      rwa [two_size] at this
  · unfold twoE
    rw [if_neg (by omega), if_neg (by omega)]

theorem i8_byte {z : Int} (h0 : -128 ≤ z) (h1 : z ≤ 127) : i8 (z % 256) = z := by unfold i8; omega

theorem wts_front (zs : List Int) (t : ByteArray) (hl : zs.length ≤ 65535) (hz : ∀ z ∈ zs, (Lit.int .i8 z).wf = true) :
    wtV (wtsS zs ++ t) 0 zs.length = zs ∧ wtS (wtsS zs ++ t) 0 zs.length = t ∧ wtE (wtsS zs ++ t) 0 zs.length = 0 := by
  have hB := wtsB_size zs
  have e : wtsS zs ++ t = two (zs.length : Nat) ++ (wtsB zs ++ t) := by
    unfold wtsS
    rw [show min zs.length 65535 = zs.length by omega, ByteArray.append_assoc]
  obtain ⟨v, s, er⟩ := two_front (zs.length : Nat) (wtsB zs ++ t)
  have hsz : (wtsB zs ++ t).size = zs.length + t.size := by rw [ByteArray.size_append, hB]; omega
  have h0 : wtE (wtsS zs ++ t) 0 zs.length = 0 := by
    rw [e]
    unfold wtE
    rw [er, if_neg (by omega), v, if_neg (by omega), s, if_neg (by rw [hsz]; omega)]
  refine ⟨?_, ?_, h0⟩
  · unfold wtV
    rw [h0, if_pos rfl, e, s]
    apply List.ext_getElem
    · rw [i8s_length]; omega
    · intro i h1 h2
      rw [i8s_length] at h1
      have hb : (byteZ (wtsB zs ++ t) i : Int) = zs[i] % 256 := by
        rw [byteZ_left _ _ _ (by rw [hB]; omega)]
        have hm : ((zs.take 65535).map (· % 256)).getD i 0 = zs[i] % 256 := by simp [List.getD, h2, show i < 65535 by omega]
        have := byteZ_of ((zs.take 65535).map (· % 256)) i (by simp; omega) (by rw [hm]; omega) (by rw [hm]; omega)
        rw [hm] at this
        exact this
      have w := hz zs[i] (List.getElem_mem _)
      have w' : -128 ≤ zs[i] ∧ zs[i] ≤ 127 := by simpa [Lit.wf, IntKind.min, IntKind.max, IntKind.signed, IntKind.bits] using w
      simp only [i8s, List.getElem_map, List.getElem_range]
      rw [hb, i8_byte w'.1 w'.2]
  · unfold wtS
    rw [h0, if_pos rfl, e, s]
    apply text_ext
    · rw [ByteArray.size_extract]; omega
    · intro i hi
      rw [ByteArray.size_extract] at hi
      rw [byteZ_part _ _ _ _ (by omega) (by omega)]
      have := byteZ_right (wtsB zs) t i (by omega)
      rw [hB, show min zs.length 65535 = zs.length by omega] at this
      simpa using this

end Go.Proofs.Ytbmlafgolmmekab
