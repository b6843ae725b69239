/- Rows of places that are moved about: what a stable sort by blocks comes to, as facts of rows of numbers alone. -/
import Derived.Test.YteeljnibglnflaaRows
import Derived.Sort.LotA
namespace Go.Proofs.Yteeljnibglnflaa
set_option maxRecDepth 20000
open Go.Sort
set_option linter.unusedVariables false

/-- place x stands ahead of place y: by the scores, and of the same ones by number -/
def Bf (sc : Nat → Int) (x y : Nat) : Prop := sc y < sc x ∨ (sc x = sc y ∧ x < y)

theorem Bf.trans {sc : Nat → Int} {x y z : Nat} (h : Bf sc x y) (h' : Bf sc y z) : Bf sc x z := by unfold Bf at *; omega

theorem Bf.ne {sc : Nat → Int} {x y : Nat} (h : Bf sc x y) : x ≠ y := by
  intro e
  subst e
  unfold Bf at h
  omega

/-- from a to b in order -/
def Srt (sc : Nat → Int) (d : Array Nat) (a b : Nat) : Prop := ∀ i j, a ≤ i → i < j → j < b → Bf sc d[i]! d[j]!

/-- of the same scores the lesser number first, from a to b -/
def EqO (sc : Nat → Int) (d : Array Nat) (a b : Nat) : Prop := ∀ i j, a ≤ i → i < j → j < b → sc d[i]! = sc d[j]! → d[i]! < d[j]!

/-- only what lies from a to b was moved, and stays there -/
structure Mv (a b : Nat) (d d' : Array Nat) : Prop where
  size : d'.size = d.size
  out : ∀ x, x < a ∨ b ≤ x → d'[x]! = d[x]!
  from_ : ∀ x, a ≤ x → x < b → ∃ y, a ≤ y ∧ y < b ∧ d'[x]! = d[y]!

theorem Mv.refl (a b : Nat) (d : Array Nat) : Mv a b d d := ⟨rfl, fun _ _ => rfl, fun x h h' => ⟨x, h, h', rfl⟩⟩

theorem Mv.trans {a b : Nat} {d d' d'' : Array Nat} (h : Mv a b d d') (h' : Mv a b d' d'') : Mv a b d d'' :=
  ⟨h'.size.trans h.size, fun x hx => (h'.out x hx).trans (h.out x hx), fun x h1 h2 => by
    obtain ⟨y, y1, y2, e⟩ := h'.from_ x h1 h2
    obtain ⟨z, z1, z2, e'⟩ := h.from_ y y1 y2
    exact ⟨z, z1, z2, e.trans e'⟩⟩

theorem Mv.mono {a b a' b' : Nat} {d d' : Array Nat} (h : Mv a b d d') (ha : a' ≤ a) (hb : b ≤ b') : Mv a' b' d d' :=
  ⟨h.size, fun x hx => h.out x (by omega), fun x h1 h2 => by
    by_cases hx : a ≤ x ∧ x < b
    · obtain ⟨y, y1, y2, e⟩ := h.from_ x hx.1 hx.2
      exact ⟨y, by omega, by omega, e⟩
    · exact ⟨x, h1, h2, h.out x (by omega)⟩⟩

/-- moved by a rule -/
theorem Mv.of {a b : Nat} {d d' : Array Nat} (hs : d'.size = d.size) (σ : Nat → Nat) (h : ∀ x, d'[x]! = d[σ x]!) (ho : ∀ x, x < a ∨ b ≤ x → σ x = x) (hi : ∀ x, a ≤ x → x < b → a ≤ σ x ∧ σ x < b) : Mv a b d d' :=
  ⟨hs, fun x hx => by rw [h, ho x hx], fun x h1 h2 => ⟨σ x, (hi x h1 h2).1, (hi x h1 h2).2, h x⟩⟩

theorem Mv.all {a b : Nat} {d d' : Array Nat} (h : Mv a b d d') {p : Nat → Prop} (hp : ∀ x, a ≤ x → x < b → p d[x]!) : ∀ x, a ≤ x → x < b → p d'[x]! := fun x h1 h2 => by
  obtain ⟨y, y1, y2, e⟩ := h.from_ x h1 h2
  rw [e]
  exact hp y y1 y2

theorem Srt.out {sc : Nat → Int} {a b p q : Nat} {d d' : Array Nat} (h : Srt sc d p q) (m : Mv a b d d') (ho : q ≤ a ∨ b ≤ p) : Srt sc d' p q := fun i j h1 h2 h3 => by
  rw [m.out i (by omega), m.out j (by omega)]
  exact h i j h1 h2 h3

theorem Srt.cut {sc : Nat → Int} {a b p q : Nat} {d : Array Nat} (h : Srt sc d a b) (hp : a ≤ p) (hq : q ≤ b) : Srt sc d p q := fun i j h1 h2 h3 => h i j (by omega) h2 (by omega)

theorem Srt.eqO {sc : Nat → Int} {a b : Nat} {d : Array Nat} (h : Srt sc d a b) : EqO sc d a b := fun i j h1 h2 h3 e => by
  have := h i j h1 h2 h3
  unfold Bf at this
  omega

theorem EqO.cut {sc : Nat → Int} {a b p q : Nat} {d : Array Nat} (h : EqO sc d a b) (hp : a ≤ p) (hq : q ≤ b) : EqO sc d p q := fun i j h1 h2 h3 => h i j (by omega) h2 (by omega)

theorem EqO.moved {sc : Nat → Int} {a b n : Nat} {d d' : Array Nat} (h : EqO sc d 0 n) (m : Mv a b d d') (s : Srt sc d' a b) (hb : b ≤ n) : EqO sc d' 0 n := fun i j h1 h2 h3 e => by
  by_cases hi : a ≤ i ∧ i < b
  · by_cases hj : a ≤ j ∧ j < b
    · exact s.eqO i j hi.1 h2 hj.2 e
    · obtain ⟨y, y1, y2, ey⟩ := m.from_ i hi.1 hi.2
      rw [ey, m.out j (by omega)] at e ⊢
      exact h y j (by omega) (by omega) h3 e
  · by_cases hj : a ≤ j ∧ j < b
    · obtain ⟨y, y1, y2, ey⟩ := m.from_ j hj.1 hj.2
      rw [ey, m.out i (by omega)] at e ⊢
      exact h i y (by omega) (by omega) (by omega) e
    · rw [m.out i (by omega), m.out j (by omega)] at e ⊢
      exact h i j h1 h2 h3 e

/-- an exchange -/
theorem Mv.swp (d : Array Nat) {i j a b : Nat} (hi : i < d.size) (hj : j < d.size) (h1 : a ≤ i ∧ i < b) (h2 : a ≤ j ∧ j < b) : Mv a b d (swp d i j) := by
  refine Mv.of (swp_size d i j) (fun x => if x = j then i else if x = i then j else x) (fun x => ?_) (fun x hx => ?_) (fun x h3 h4 => ?_)
  · rw [swp_get d hi hj x]
    split
    · rfl
    · split <;> rfl
  · rw [if_neg (by omega), if_neg (by omega)]
  · show a ≤ (if x = j then i else if x = i then j else x) ∧ (if x = j then i else if x = i then j else x) < b
    split
    · exact h1
    · split
      · exact h2
      · exact ⟨h3, h4⟩

/-! ### insertion -/
/-- the one at j is being brought to its place among those from a to i -/
structure Ins (sc : Nat → Int) (a j i : Nat) (d : Array Nat) : Prop where
  others : ∀ p q, a ≤ p → p < q → q ≤ i → p ≠ j → q ≠ j → Bf sc d[p]! d[q]!
  behind : ∀ q, j < q → q ≤ i → Bf sc d[j]! d[q]!
  same : ∀ p, a ≤ p → p < j → sc d[p]! = sc d[j]! → d[p]! < d[j]!

theorem Ins.start {sc : Nat → Int} {a i : Nat} {d : Array Nat} (h : Srt sc d a i) (e : EqO sc d a (i + 1)) : Ins sc a i i d :=
  ⟨fun p q h1 h2 h3 h4 h5 => h p q h1 h2 (by omega), fun q h1 h2 => by omega, fun p h1 h2 => e p i h1 h2 (by omega)⟩

theorem Ins.step {sc : Nat → Int} {a j i : Nat} {d : Array Nat} (h : Ins sc a (j + 1) i d) (hl : sc d[j]! < sc d[j + 1]!) (haj : a ≤ j) (hji : j + 1 ≤ i) (hsz : j + 1 < d.size) : Ins sc a j i (swp d (j + 1) j) := by
  have g := fun x => swp_get d hsz (show j < d.size by omega) x
  have ej : (swp d (j + 1) j)[j]! = d[j + 1]! := by rw [g, if_pos rfl]
  have ej1 : (swp d (j + 1) j)[j + 1]! = d[j]! := by rw [g, if_neg (by omega), if_pos rfl]
  have eo : ∀ x, x ≠ j → x ≠ j + 1 → (swp d (j + 1) j)[x]! = d[x]! := fun x h1 h2 => by rw [g, if_neg h1, if_neg h2]
  refine ⟨fun p q h1 h2 h3 h4 h5 => ?_, fun q h1 h2 => ?_, fun p h1 h2 => ?_⟩
  · by_cases hp : p = j + 1
    · subst hp
      rw [ej1, eo q (by omega) (by omega)]
      exact h.others j q haj (by omega) h3 (by omega) (by omega)
    · by_cases hq : q = j + 1
      · subst hq
        rw [ej1, eo p h4 hp]
        exact h.others p j h1 (by omega) (by omega) hp (by omega)
      · rw [eo p h4 hp, eo q h5 hq]
        exact h.others p q h1 h2 h3 hp hq
  · rw [ej]
    by_cases hq : q = j + 1
    · subst hq
      rw [ej1]
      exact .inl hl
    · rw [eo q (by omega) hq]
      exact h.behind q (by omega) h2
  · rw [ej, eo p (by omega) (by omega)]
    exact h.same p h1 (by omega)

theorem Ins.stop {sc : Nat → Int} {a j i : Nat} {d : Array Nat} (h : Ins sc a j i d) (hs : j ≤ a ∨ ∃ p, j = p + 1 ∧ a ≤ p ∧ ¬ sc d[p]! < sc d[j]!) (hji : j ≤ i) : Srt sc d a (i + 1) := by
  have front : ∀ p, a ≤ p → p < j → Bf sc d[p]! d[j]! := fun p h1 h2 => by
    rcases hs with hs | ⟨q, rfl, h3, h4⟩
    · omega
    · have s1 := h.same q h3 (by omega)
      have b1 : Bf sc d[q]! d[q + 1]! := by unfold Bf; omega
      by_cases hp : p = q
      · subst hp; exact b1
      · exact (h.others p q h1 (by omega) (by omega) (by omega) (by omega)).trans b1
  intro p q h1 h2 h3
  by_cases hp : p = j
  · subst hp
    exact h.behind q h2 (by omega)
  · by_cases hq : q = j
    · subst hq
      exact front p h1 h2
    · exact h.others p q h1 h2 (by omega) hp hq

/-! ### rotating -/
def swI (a b n x : Nat) : Nat := if a ≤ x ∧ x < a + n then x - a + b else if b ≤ x ∧ x < b + n then x - b + a else x

def rotI (a m b x : Nat) : Nat := if a ≤ x ∧ x < a + (b - m) then x + (m - a) else if a + (b - m) ≤ x ∧ x < b then x - (b - m) else x

/-- the first n from a on, exchanged with those from b on -/
def swR (d : Array Nat) (a b : Nat) : Nat → Array Nat
  | 0 => d
  | n + 1 => swp (swR d a b n) (a + n) (b + n)

theorem swR_size (d : Array Nat) (a b n : Nat) : (swR d a b n).size = d.size := by
  induction n with
  | zero => rfl
  | succ n ih => rw [swR, swp_size, ih]

theorem swR_at (d : Array Nat) (a b n : Nat) (hab : a + n ≤ b) (hb : b + n ≤ d.size) (x : Nat) : (swR d a b n)[x]! = d[swI a b n x]! := by
  induction n generalizing x with
  | zero =>
    have : swI a b 0 x = x := by unfold swI; rw [if_neg (by omega), if_neg (by omega)]
    rw [this]; rfl
  | succ n ih =>
    rw [swR, swp_get _ (by rw [swR_size]; omega) (by rw [swR_size]; omega)]
    split
    · rename_i e
      rw [ih (by omega) (by omega)]
      congr 1
      unfold swI
      rw [if_neg (by omega), if_neg (by omega), if_neg (by omega), if_pos (by omega)]
      omega
    · split
      · rename_i e
        rw [ih (by omega) (by omega)]
        congr 1
        unfold swI
        rw [if_neg (by omega), if_neg (by omega), if_pos (by omega)]
        omega
      · rw [ih (by omega) (by omega)]
        congr 1
        unfold swI
        by_cases c1 : a ≤ x ∧ x < a + n
        · rw [if_pos c1, if_pos (by omega)]
        · have n1 : ¬(a ≤ x ∧ x < a + (n + 1)) := by omega
          rw [if_neg c1, if_neg n1]
          by_cases c2 : b ≤ x ∧ x < b + n
          · have n2 : b ≤ x ∧ x < b + (n + 1) := by omega
            rw [if_pos c2, if_pos n2]
          · have n2 : ¬(b ≤ x ∧ x < b + (n + 1)) := by omega
            rw [if_neg c2, if_neg n2]

/-- dF is d with the parts from a to m and from m to b exchanged -/
def Rot (a m b : Nat) (d dF : Array Nat) : Prop := ∀ x, dF[x]! = d[rotI a m b x]!

theorem rot_left {m i j : Nat} (hj : 0 < j) (hij : j < i) (hi : i ≤ m) (x : Nat) : swI (m - i) m j (rotI (m - (i - j)) m (m + j) x) = rotI (m - i) m (m + j) x := by
  unfold rotI
  by_cases c1 : m - (i - j) ≤ x ∧ x < m - (i - j) + (m + j - m)
  · rw [if_pos c1]
    unfold swI
    rw [if_neg (by omega)]
    by_cases c2 : m ≤ x + (m - (m - (i - j))) ∧ x + (m - (m - (i - j))) < m + j
    · rw [if_pos c2, if_neg (by omega), if_pos (by omega)]; omega
    · omega
  · rw [if_neg c1]
    by_cases c2 : m - (i - j) + (m + j - m) ≤ x ∧ x < m + j
    · rw [if_pos c2]
      unfold swI
      rw [if_neg (by omega), if_neg (by omega), if_neg (by omega), if_pos (by omega)]
    · rw [if_neg c2]
      unfold swI
      by_cases c3 : m - i ≤ x ∧ x < m - i + j
      · rw [if_pos c3, if_pos (by omega)]; omega
      · rw [if_neg c3, if_neg (by omega), if_neg (by omega), if_neg (by omega)]

theorem rot_right {m i j : Nat} (hj : 0 < i) (hij : i < j) (hi : i ≤ m) (x : Nat) : swI (m - i) (m + j - i) i (rotI (m - i) m (m + (j - i)) x) = rotI (m - i) m (m + j) x := by
  unfold rotI
  by_cases c1 : m - i ≤ x ∧ x < m - i + (m + (j - i) - m)
  · rw [if_pos c1]
    unfold swI
    rw [if_neg (by omega), if_neg (by omega), if_pos (by omega)]
  · rw [if_neg c1]
    by_cases c2 : m - i + (m + (j - i) - m) ≤ x ∧ x < m + (j - i)
    · rw [if_pos c2]
      unfold swI
      rw [if_pos (by omega), if_pos (by omega)]; omega
    · rw [if_neg c2]
      unfold swI
      rw [if_neg (by omega)]
      by_cases c3 : m + j - i ≤ x ∧ x < m + j - i + i
      · rw [if_pos c3, if_neg (by omega), if_pos (by omega)]; omega
      · rw [if_neg c3, if_neg (by omega), if_neg (by omega)]

theorem rot_last {m i : Nat} (hi : i ≤ m) (x : Nat) : swI (m - i) m i x = rotI (m - i) m (m + i) x := by
  have e : m - i + (m + i - m) = m := by omega
  have e2 : m - i + i = m := by omega
  unfold rotI swI
  rw [e, e2]
  by_cases c1 : m - i ≤ x ∧ x < m
  · rw [if_pos c1, if_pos c1]; omega
  · rw [if_neg c1, if_neg c1]
    by_cases c2 : m ≤ x ∧ x < m + i
    · rw [if_pos c2, if_pos c2]; omega
    · rw [if_neg c2, if_neg c2]

theorem rot_none {a m b : Nat} (h : m ≤ a ∨ b ≤ m) (ham : a ≤ m) (hmb : m ≤ b) (x : Nat) : rotI a m b x = x := by
  unfold rotI
  split
  · omega
  · split
    · omega
    · rfl

theorem Rot.mv {a m b : Nat} {d dF : Array Nat} (h : Rot a m b d dF) (hs : dF.size = d.size) (ham : a ≤ m) (hmb : m ≤ b) : Mv a b d dF := by
  refine Mv.of hs (rotI a m b) h (fun x hx => ?_) (fun x h1 h2 => ?_)
  · unfold rotI
    rw [if_neg (by omega), if_neg (by omega)]
  · unfold rotI
    by_cases c1 : a ≤ x ∧ x < a + (b - m)
    · rw [if_pos c1]; omega
    · rw [if_neg c1, if_pos (by omega)]; omega

end Go.Proofs.Yteeljnibglnflaa
