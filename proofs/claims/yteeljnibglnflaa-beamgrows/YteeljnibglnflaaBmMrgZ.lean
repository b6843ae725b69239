/- Two rows in order, one behind the other, that are merged: what holds at each way of it, as facts of rows of numbers alone. -/
import Derived.Test.YteeljnibglnflaaRows
import Derived.Test.YteeljnibglnflaaBmSrtZ
namespace Go.Proofs.Yteeljnibglnflaa
set_option maxRecDepth 20000
open Go.Sort
set_option linter.unusedVariables false

/-- two parts in order, of the same scores those of the first part lesser -/
structure Two (sc : Nat → Int) (d : Array Nat) (a m b : Nat) : Prop where
  left : Srt sc d a m
  right : Srt sc d m b
  same : ∀ i j, a ≤ i → i < m → m ≤ j → j < b → sc d[i]! = sc d[j]! → d[i]! < d[j]!

theorem Two.of {sc : Nat → Int} {d : Array Nat} {a m b n : Nat} (h : EqO sc d 0 n) (h1 : Srt sc d a m) (h2 : Srt sc d m b) (hb : b ≤ n) : Two sc d a m b :=
  ⟨h1, h2, fun i j _ h4 h5 h6 e => h i j (by omega) (by omega) (by omega) e⟩

/-- the one part is empty -/
theorem Two.none {sc : Nat → Int} {d : Array Nat} {a m b : Nat} (h : Two sc d a m b) (he : m ≤ a ∨ b ≤ m) (ham : a ≤ m) (hmb : m ≤ b) : Srt sc d a b := by
  rcases he with e | e
  · obtain rfl : m = a := by omega
    exact h.right
  · obtain rfl : m = b := by omega
    exact h.left

/-! ### one member in the first part -/
/-- where the first one stands, brought to k -/
def upI (a k x : Nat) : Nat := if a ≤ x ∧ x < k then x + 1 else if x = k then a else x

theorem upI_start (a x : Nat) : upI a a x = x := by
  unfold upI
  split
  · omega
  · split <;> omega

theorem up_step {d dk : Array Nat} {a k : Nat} (hak : a ≤ k) (hs : dk.size = d.size) (hk : k + 1 < d.size) (h : ∀ x, dk[x]! = d[upI a k x]!) (x : Nat) : (swp dk k (k + 1))[x]! = d[upI a (k + 1) x]! := by
  rw [swp_get dk (by omega) (by omega) x]
  by_cases c1 : x = k + 1
  · rw [if_pos c1, h]
    congr 1
    unfold upI
    rw [if_neg (by omega), if_pos rfl, if_neg (by omega), if_pos c1]
  · rw [if_neg c1]
    by_cases c2 : x = k
    · rw [if_pos c2, h]
      congr 1
      subst c2
      unfold upI
      rw [if_neg (by omega), if_neg (by omega), if_pos (by omega)]
    · rw [if_neg c2, h]
      congr 1
      unfold upI
      by_cases c3 : a ≤ x ∧ x < k
      · rw [if_pos c3, if_pos (by omega)]
      · have c4 : ¬(a ≤ x ∧ x < k + 1) := by omega
        rw [if_neg c3, if_neg c4, if_neg c2, if_neg c1]

theorem up_mv {d dk : Array Nat} {a k b : Nat} (hak : a ≤ k) (hkb : k < b) (hs : dk.size = d.size) (h : ∀ x, dk[x]! = d[upI a k x]!) : Mv a b d dk := by
  refine Mv.of hs (upI a k) h (fun x hx => ?_) (fun x h1 h2 => ?_)
  · unfold upI
    rw [if_neg (by omega), if_neg (by omega)]
  · unfold upI
    split
    · omega
    · split <;> omega

theorem Srt.sc_le {sc : Nat → Int} {d : Array Nat} {a b i j : Nat} (h : Srt sc d a b) (h1 : a ≤ i) (h2 : i ≤ j) (h3 : j < b) : sc d[j]! ≤ sc d[i]! := by
  by_cases e : i = j
  · subst e; exact Int.le_refl _
  · have := h i j h1 (by omega) h3
    unfold Bf at this
    omega

theorem up_srt {sc : Nat → Int} {d dk : Array Nat} {a b i : Nat} (t : Two sc d a (a + 1) b) (hi : a + 1 ≤ i) (hib : i ≤ b)
    (lo : i = a + 1 ∨ sc d[a]! < sc d[i - 1]!) (hi2 : i = b ∨ ¬ sc d[a]! < sc d[i]!) (h : ∀ x, dk[x]! = d[upI a (i - 1) x]!) : Srt sc dk a b := by
  have ahead_ : ∀ q, a + 1 ≤ q → q < i → Bf sc d[q]! d[a]! := fun q h1 h2 => by
    left
    rcases lo with lo | lo
    · omega
    · have := t.right.sc_le h1 (show q ≤ i - 1 by omega) (by omega)
      omega
  have behind_ : ∀ q, i ≤ q → q < b → Bf sc d[a]! d[q]! := fun q h1 h2 => by
    rcases hi2 with e | e
    · omega
    · have := t.right.sc_le hi h1 h2
      have s := t.same a q (Nat.le_refl _) (by omega) (by omega) h2
      unfold Bf
      omega
  intro p q h1 h2 h3
  rw [h p, h q]
  unfold upI
  by_cases c1 : a ≤ p ∧ p < i - 1
  · rw [if_pos c1]
    by_cases c2 : a ≤ q ∧ q < i - 1
    · rw [if_pos c2]
      exact t.right _ _ (by omega) (by omega) (by omega)
    · rw [if_neg c2]
      by_cases c3 : q = i - 1
      · rw [if_pos c3]
        exact ahead_ _ (by omega) (by omega)
      · rw [if_neg c3]
        exact t.right _ _ (by omega) (by omega) (by omega)
  · have c2 : ¬(a ≤ q ∧ q < i - 1) := by omega
    have c3 : ¬(q = i - 1) := by omega
    rw [if_neg c1, if_neg c2, if_neg c3]
    by_cases c4 : p = i - 1
    · rw [if_pos c4]
      exact behind_ _ (by omega) h3
    · rw [if_neg c4]
      exact t.right _ _ (by omega) (by omega) (by omega)

/-! ### one member in the second part -/
/-- where the one at m stands, brought down to k -/
def dnI (m k x : Nat) : Nat := if k < x ∧ x ≤ m then x - 1 else if x = k then m else x

theorem dnI_start (m x : Nat) : dnI m m x = x := by
  unfold dnI
  split
  · omega
  · split <;> omega

theorem dn_step {d dk : Array Nat} {m k : Nat} (hkm : k + 1 ≤ m) (hs : dk.size = d.size) (hk : m < d.size) (h : ∀ x, dk[x]! = d[dnI m (k + 1) x]!) (x : Nat) : (swp dk (k + 1) k)[x]! = d[dnI m k x]! := by
  rw [swp_get dk (by omega) (by omega) x]
  by_cases c1 : x = k
  · rw [if_pos c1, h]
    congr 1
    unfold dnI
    rw [if_neg (by omega), if_pos rfl, if_neg (by omega), if_pos c1]
  · rw [if_neg c1]
    by_cases c2 : x = k + 1
    · rw [if_pos c2, h]
      congr 1
      subst c2
      unfold dnI
      rw [if_neg (by omega), if_neg (by omega), if_pos (by omega)]
      omega
    · rw [if_neg c2, h]
      congr 1
      unfold dnI
      by_cases c3 : k + 1 < x ∧ x ≤ m
      · rw [if_pos c3, if_pos (by omega)]
      · have c4 : ¬(k < x ∧ x ≤ m) := by omega
        rw [if_neg c3, if_neg c4, if_neg c2, if_neg c1]

theorem dn_mv {d dk : Array Nat} {a m k : Nat} (hak : a ≤ k) (hkm : k ≤ m) (hs : dk.size = d.size) (h : ∀ x, dk[x]! = d[dnI m k x]!) : Mv a (m + 1) d dk := by
  refine Mv.of hs (dnI m k) h (fun x hx => ?_) (fun x h1 h2 => ?_)
  · unfold dnI
    rw [if_neg (by omega), if_neg (by omega)]
  · unfold dnI
    split
    · omega
    · split <;> omega

theorem dn_srt {sc : Nat → Int} {d dk : Array Nat} {a m i : Nat} (t : Two sc d a m (m + 1)) (hai : a ≤ i) (him : i ≤ m)
    (lo : i = a ∨ ¬ sc d[i - 1]! < sc d[m]!) (hi2 : i = m ∨ sc d[i]! < sc d[m]!) (h : ∀ x, dk[x]! = d[dnI m i x]!) : Srt sc dk a (m + 1) := by
  have ahead_ : ∀ q, a ≤ q → q < i → Bf sc d[q]! d[m]! := fun q h1 h2 => by
    rcases lo with lo | lo
    · omega
    · have := t.left.sc_le h1 (show q ≤ i - 1 by omega) (by omega)
      have s := t.same q m h1 (by omega) (Nat.le_refl _) (by omega)
      unfold Bf
      omega
  have behind_ : ∀ q, i ≤ q → q < m → Bf sc d[m]! d[q]! := fun q h1 h2 => by
    left
    rcases hi2 with e | e
    · omega
    · have := t.left.sc_le hai h1 h2
      omega
  intro p q h1 h2 h3
  rw [h p, h q]
  unfold dnI
  by_cases c1 : i < p ∧ p ≤ m
  · have c2 : i < q ∧ q ≤ m := by omega
    rw [if_pos c1, if_pos c2]
    exact t.left _ _ (by omega) (by omega) (by omega)
  · rw [if_neg c1]
    by_cases c3 : p = i
    · have c2 : i < q ∧ q ≤ m := by omega
      rw [if_pos c3, if_pos c2]
      exact behind_ _ (by omega) (by omega)
    · rw [if_neg c3]
      by_cases c2 : i < q ∧ q ≤ m
      · rw [if_pos c2]
        exact t.left _ _ (by omega) (by omega) (by omega)
      · rw [if_neg c2]
        by_cases c4 : q = i
        · rw [if_pos c4]
          exact ahead_ _ (by omega) (by omega)
        · rw [if_neg c4]
          exact t.left _ _ (by omega) (by omega) (by omega)

/-! ### both parts, cut in two -/
/-- behind the rotation: two pairs of parts, those of the first ahead of those of the second -/
structure Cut (sc : Nat → Int) (d : Array Nat) (a s mid e b : Nat) : Prop where
  first : Two sc d a s mid
  second : Two sc d mid e b
  cross : ∀ i j, a ≤ i → i < mid → mid ≤ j → j < b → Bf sc d[i]! d[j]!

theorem cut_of {sc : Nat → Int} {d dF : Array Nat} {a m b s mid : Nat} (t : Two sc d a m b) (has : a ≤ s) (hsm : s ≤ m) (hs : s ≤ mid) (hmb : mid + m - s ≤ b)
    (lo : (s = a ∨ mid + m - s = b) ∨ (mid + m - s < b ∧ sc d[mid + m - s]! ≤ sc d[s - 1]!)) (hi : (s = m ∨ s = mid) ∨ sc d[s]! < sc d[mid + m - s - 1]!) (h : Rot s m (mid + m - s) d dF) : Cut sc dF a s mid (mid + m - s) b := by
  have g1 : ∀ x, x < s → dF[x]! = d[x]! := fun x hx => by
    rw [h x]; unfold rotI; rw [if_neg (by omega), if_neg (by omega)]
  have g2 : ∀ x, s ≤ x → x < mid → dF[x]! = d[x + (m - s)]! := fun x h1 h2 => by
    rw [h x]; unfold rotI; rw [if_pos (by omega)]
  have g3 : ∀ x, mid ≤ x → x < mid + m - s → dF[x]! = d[x - (mid - s)]! := fun x h1 h2 => by
    rw [h x]; unfold rotI; rw [if_neg (by omega), if_pos (by omega)]
    congr 1
    omega
  have g4 : ∀ x, mid + m - s ≤ x → dF[x]! = d[x]! := fun x h1 => by
    rw [h x]; unfold rotI
    rw [if_neg (by omega), if_neg (by omega)]
  refine ⟨⟨fun i j h1 h2 h3 => ?_, fun i j h1 h2 h3 => ?_, fun i j h1 h2 h3 h4 => ?_⟩, ⟨fun i j h1 h2 h3 => ?_, fun i j h1 h2 h3 => ?_, fun i j h1 h2 h3 h4 => ?_⟩, fun i j h1 h2 h3 h4 => ?_⟩
  · rw [g1 i (by omega), g1 j h3]
    exact t.left i j h1 h2 (by omega)
  · rw [g2 i h1 (by omega), g2 j (by omega) h3]
    exact t.right _ _ (by omega) (by omega) (by omega)
  · rw [g1 i h2, g2 j h3 h4]
    exact t.same _ _ h1 (by omega) (by omega) (by omega)
  · rw [g3 i h1 (by omega), g3 j (by omega) h3]
    exact t.left _ _ (by omega) (by omega) (by omega)
  · rw [g4 i h1, g4 j (by omega)]
    exact t.right _ _ (by omega) (by omega) (by omega)
  · rw [g3 i h1 h2, g4 j h3]
    exact t.same _ _ (by omega) (by omega) (by omega) (by omega)
  · by_cases ci : i < s
    · rw [g1 i ci]
      by_cases cj : j < mid + m - s
      · rw [g3 j h3 cj]
        exact t.left _ _ h1 (by omega) (by omega)
      · rw [g4 j (by omega)]
        rcases lo with lo | lo
        · omega
        · have e1 := t.left.sc_le h1 (show i ≤ s - 1 by omega) (by omega)
          have e2 := t.right.sc_le (show m ≤ mid + m - s by omega) (show mid + m - s ≤ j by omega) h4
          have e3 := t.same i j h1 (by omega) (by omega) h4
          unfold Bf
          omega
    · rw [g2 i (by omega) h2]
      by_cases cj : j < mid + m - s
      · rw [g3 j h3 cj]
        rcases hi with hi | hi
        · omega
        · have e1 := t.left.sc_le (show a ≤ s from has) (show s ≤ j - (mid - s) by omega) (by omega)
          have e2 := t.right.sc_le (show m ≤ i + (m - s) by omega) (show i + (m - s) ≤ mid + m - s - 1 by omega) (by omega)
          unfold Bf
          omega
      · rw [g4 j (by omega)]
        exact t.right _ _ (by omega) (by omega) h4

theorem Cut.join {sc : Nat → Int} {d d1 d2 : Array Nat} {a s mid e b : Nat} (c : Cut sc d a s mid e b) (m1 : Mv a mid d d1) (s1 : Srt sc d1 a mid) (m2 : Mv mid b d1 d2) (s2 : Srt sc d2 mid b) : Srt sc d2 a b := by
  intro i j h1 h2 h3
  by_cases ci : i < mid
  · by_cases cj : j < mid
    · rw [m2.out i (by omega), m2.out j (by omega)]
      exact s1 i j h1 h2 cj
    · rw [m2.out i (by omega)]
      obtain ⟨y, y1, y2, ey⟩ := m1.from_ i h1 ci
      obtain ⟨z, z1, z2, ez⟩ := m2.from_ j (by omega) h3
      rw [ey, ez, m1.out z (by omega)]
      exact c.cross y z y1 y2 z1 z2
  · exact s2 i j (by omega) h2 h3

theorem Two.moved {sc : Nat → Int} {d d1 : Array Nat} {a b p e q : Nat} (t : Two sc d p e q) (m : Mv a b d d1) (ho : q ≤ a ∨ b ≤ p) (h1 : p ≤ e) (h2 : e ≤ q) : Two sc d1 p e q :=
  ⟨t.left.out m (by omega), t.right.out m (by omega), fun i j i1 i2 i3 i4 => by
    rw [m.out i (by omega), m.out j (by omega)]
    exact t.same i j i1 i2 i3 i4⟩

end Go.Proofs.Yteeljnibglnflaa
