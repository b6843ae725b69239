/- Rows that are in order block by block: facts of rows of numbers alone. -/
import Derived.Test.YteeljnibglnflaaRows
import Derived.Test.YteeljnibglnflaaBmMrgZ
namespace Go.Proofs.Yteeljnibglnflaa
set_option maxRecDepth 20000
open Go.Sort
set_option linter.unusedVariables false

/-- in order within each block of s, up to p -/
def BlkTo (sc : Nat → Int) (s : Nat) (d : Array Nat) (p : Nat) : Prop := ∀ i j, i < j → j < p → i / s = j / s → Bf sc d[i]! d[j]!

/-- .. from p to n -/
def BlkFrom (sc : Nat → Int) (s : Nat) (d : Array Nat) (p n : Nat) : Prop := ∀ i j, p ≤ i → i < j → j < n → i / s = j / s → Bf sc d[i]! d[j]!

theorem same_blk {s p i : Nat} (hs : 0 < s) (hp : s ∣ p) (h1 : p ≤ i) (h2 : i < p + s) : i / s = p / s := by
  obtain ⟨t, rfl⟩ := hp
  obtain ⟨r, rfl⟩ : ∃ r, i = s * t + r := ⟨i - s * t, by omega⟩
  rw [Nat.mul_add_div hs, Nat.div_eq_of_lt (by omega), Nat.mul_div_cancel_left t hs, Nat.add_zero]

theorem blk_ge {s p i j : Nat} (hp : s ∣ p) (h1 : p ≤ j) (e : i / s = j / s) : p ≤ i := by
  have h2 : p / s ≤ j / s := Nat.div_le_div_right h1
  have h3 : p / s * s = p := Nat.div_mul_cancel hp
  have h4 : i / s * s ≤ i := Nat.div_mul_le_self i s
  have h5 := Nat.mul_le_mul_right s (show p / s ≤ i / s by rw [e]; exact h2)
  omega

theorem BlkTo.step {sc : Nat → Int} {s p q : Nat} {d d' : Array Nat} (h : BlkTo sc s d p) (hp : s ∣ p) (m : Mv p q d d') (t : Srt sc d' p q) : BlkTo sc s d' q := fun i j h1 h2 e => by
  by_cases hj : j < p
  · rw [m.out i (by omega), m.out j (by omega)]
    exact h i j h1 hj e
  · exact t i j (blk_ge hp (by omega) e) h1 h2

theorem BlkFrom.srt {sc : Nat → Int} {s p x n : Nat} {d : Array Nat} (h : BlkFrom sc s d p n) (hs : 0 < s) (hx : s ∣ x) (hpx : p ≤ x) {y : Nat} (hy : y ≤ x + s) (hyn : y ≤ n) : Srt sc d x y := fun i j h1 h2 h3 =>
  h i j (by omega) h2 (by omega) ((same_blk hs hx h1 (by omega)).trans (same_blk hs hx (by omega) (by omega)).symm)

theorem BlkFrom.moved {sc : Nat → Int} {s p q n : Nat} {d d' : Array Nat} (h : BlkFrom sc s d p n) (m : Mv p q d d') (hpq : p ≤ q) : BlkFrom sc s d' q n := fun i j h1 h2 h3 e => by
  rw [m.out i (by omega), m.out j (by omega)]
  exact h i j (by omega) h2 h3 e

theorem BlkTo.from_ {sc : Nat → Int} {s n : Nat} {d : Array Nat} (h : BlkTo sc s d n) : BlkFrom sc s d 0 n := fun i j _ h2 h3 e => h i j h2 h3 e

theorem BlkTo.all {sc : Nat → Int} {s n : Nat} {d : Array Nat} (h : BlkTo sc s d n) (hs : n ≤ s) : Srt sc d 0 n := fun i j _ h2 h3 => h i j h2 h3 (by rw [Nat.div_eq_of_lt (by omega), Nat.div_eq_of_lt (by omega)])

/-- what is told of the row all the while -/
structure Held (sc : Nat → Int) (n : Nat) (d dk : Array Nat) : Prop where
  mv : Mv 0 n d dk
  eqo : EqO sc dk 0 n

theorem Held.step {sc : Nat → Int} {n p q : Nat} {d dk dF : Array Nat} (h : Held sc n d dk) (m : Mv p q dk dF) (s : Srt sc dF p q) (hq : q ≤ n) : Held sc n d dF :=
  ⟨h.mv.trans (m.mono (Nat.zero_le _) hq), h.eqo.moved m s hq⟩

end Go.Proofs.Yteeljnibglnflaa
