/- Weights in pages as plain values: where each lies, what is placed, fetched and released. -/
import Derived.Test.YtfggkkhehaafcaaRows
import Derived.Test.YtfggkkhehaafcaaPages
import Derived.Test.YtfggkkhehaafcaaView
import Derived.Test.YtfggkkhehaafcaaOwn
import Derived.Test.YtfggkkhehaafcaaReadsP
import Derived.Test.YtfggkkhehaafcaaReadsQ
import Derived.Test.YtfggkkhehaafcaaLeast
import Derived.Test.YtfggkkhehaafcaaLays
import Derived.Test.YtfggkkhehaafcaaGoods
import Derived.WalkKit
import Derived.ProofKit
import Derived.OpenShut
import Derived.Below
import Derived.WalkLawsBesides
import Derived.Deep.QuietTactic
import Derived.BigQuiet
namespace Go.Proofs.Ytfggkkhehaafcaa
open Go.ChangeShapes Go.WideShapes Go.ChangeAt Go.RowKit
set_option linter.unusedVariables false

/-- how many pages so many weights take -/
def needZ (n : Int) : Int := if n < 1 then 0 else (n - 1) / 32 + 1
theorem needZ_nat (n : Nat) : needZ n = (((n + 31) / 32 : Nat) : Int) := by unfold needZ; split <;> omega
theorem needZ_nonneg (n : Int) : 0 ≤ needZ n := by unfold needZ; split <;> omega

/-- the page and the cell of a weight -/
def spot (P : List Int) (i : Nat) : Int × Int := (P.getD (i / 32) 0, ((i % 32 : Nat) : Int))
def spots (P : List Int) (n : Nat) : List (Int × Int) := (List.range n).map (spot P)
theorem spots_succ (P : List Int) (n : Nat) : spots P (n + 1) = spots P n ++ [spot P n] := by simp [spots, List.range_succ]
theorem spots_len (P : List Int) (n : Nat) : (spots P n).length = n := by simp [spots]
theorem spots_zero (P : List Int) : spots P 0 = [] := rfl
theorem spots_at (P : List Int) (n i : Nat) (h : i < n) : (spots P n)[i]? = some (spot P i) := by simp [spots, h]

/-- the pool when weights have been put at these places, one behind the other -/
def putTo (s : Pl) (W : List Int) (l : List (Int × Int)) : Nat × Pl := l.foldl (fun q x => (q.1 + 1, putS q.2 x.1 x.2 (W.getD q.1 0))) (0, s)
theorem putTo_fold (W : List Int) (l : List (Int × Int)) : ∀ q : Nat × Pl, (l.foldl (fun q x => (q.1 + 1, putS q.2 x.1 x.2 (W.getD q.1 0))) q).1 = q.1 + l.length := by
  induction l with
  | nil => intro q; rfl
  | cons x r ih => intro q; rw [List.foldl_cons, ih]; simp only [List.length_cons]; omega
theorem putTo_len (s : Pl) (W : List Int) (l : List (Int × Int)) : (putTo s W l).1 = l.length := by rw [putTo, putTo_fold]; simp
theorem putTo_snoc (s : Pl) (W : List Int) (l : List (Int × Int)) (x : Int × Int) : (putTo s W (l ++ [x])).2 = putS (putTo s W l).2 x.1 x.2 (W.getD l.length 0) := by
  have h := putTo_len s W l
  simp only [putTo, List.foldl_append, List.foldl_cons, List.foldl_nil] at h ⊢
  rw [h]
theorem putTo_nil (s : Pl) (W : List Int) : (putTo s W []).2 = s := rfl

theorem Good.putTo {m : Nat} {s : Pl} (h : Good m s) (W : List Int) (l : List (Int × Int)) : Good m (putTo s W l).2 := by
  have key : ∀ (l : List (Int × Int)) (q : Nat × Pl), Good m q.2 → Good m (l.foldl (fun q x => (q.1 + 1, Ytfggkkhehaafcaa.putS q.2 x.1 x.2 (W.getD q.1 0))) q).2 := by
    intro l
    induction l with
    | nil => intro q hq; exact hq
    | cons x r ih => intro q hq; exact ih _ (hq.putS x.1 x.2 _)
  exact key l (0, s) h

def placeE (s : Pl) (t : ByteArray) (W : List Int) : Int := takeE s t (needZ W.length)
def placeR (s : Pl) (t : ByteArray) (W : List Int) : List Int := takeR s t (needZ W.length)
def placeS (s : Pl) (t : ByteArray) (W : List Int) : Pl := if placeE s t W = 0 then (putTo (takeS s t (needZ W.length)) W (spots (placeR s t W) W.length)).2 else s

theorem Good.placeS {m : Nat} {s : Pl} (h : Good m s) (hm : 1 ≤ m) (t : ByteArray) (W : List Int) : Good m (placeS s t W) := by
  unfold Ytfggkkhehaafcaa.placeS
  split
  · exact (h.takeS hm t _).putTo W _
  · exact h

theorem placeR_len {s : Pl} {t : ByteArray} {W : List Int} (hs : 0 ≤ s.aside) (h : placeE s t W = 0) : (placeR s t W).length = (W.length + 31) / 32 := by
  unfold placeE at h
  obtain ⟨h0, h1, h2⟩ := takeE_zero h
  unfold placeR takeR
  rw [if_pos h, tk_len, needZ_nat]
  rw [needZ_nat] at h2
  simp only [Int.toNat_natCast]
  have a0 : 0 ≤ (freeTo s.pg s.n : Int) := Int.natCast_nonneg _
  omega

/-- the first error on the way, 0 where there is none -/
def stepE (s : Pl) (x : Int × Int) : Int := if getE s x.1 x.2 ≠ 0 then getE s x.1 x.2 else if getV s x.1 x.2 < -128 ∨ 127 < getV s x.1 x.2 then 20 else 0
def fetE (s : Pl) : List (Int × Int) → Int
  | [] => 0
  | x :: r => if stepE s x ≠ 0 then stepE s x else fetE s r
def fetV (s : Pl) (l : List (Int × Int)) : List Int := l.map fun x => getV s x.1 x.2

theorem fetE_append (s : Pl) (a b : List (Int × Int)) : fetE s (a ++ b) = if fetE s a ≠ 0 then fetE s a else fetE s b := by
  induction a with
  | nil => simp [fetE]
  | cons x r ih =>
    by_cases h : stepE s x = 0
    · simp [fetE, h, ih]
    · simp [fetE, h]
theorem fetE_snoc (s : Pl) (a : List (Int × Int)) (x : Int × Int) (h : fetE s a = 0) : fetE s (a ++ [x]) = stepE s x := by
  rw [fetE_append, if_neg (by simp [h])]
  simp only [fetE]
  split
  · rfl
  · rename_i e; omega
theorem fetV_snoc (s : Pl) (a : List (Int × Int)) (x : Int × Int) : fetV s (a ++ [x]) = fetV s a ++ [getV s x.1 x.2] := by simp [fetV]
theorem fetV_len (s : Pl) (a : List (Int × Int)) : (fetV s a).length = a.length := by simp [fetV]
theorem fetE_zero {s : Pl} {a : List (Int × Int)} (h : fetE s a = 0) : ∀ x ∈ a, stepE s x = 0 := by
  induction a with
  | nil => simp
  | cons y r ih =>
    simp only [fetE] at h
    intro x hx
    by_cases hy : stepE s y ≠ 0
    · rw [if_pos hy] at h; exact absurd h hy
    · rw [if_neg hy] at h
      rcases List.mem_cons.1 hx with rfl | hx
      · omega
      · exact ih h x hx
theorem stepE_zero {s : Pl} {x : Int × Int} (h : stepE s x = 0) : getE s x.1 x.2 = 0 ∧ -128 ≤ getV s x.1 x.2 ∧ getV s x.1 x.2 ≤ 127 := by
  unfold stepE at h
  split at h
  · rename_i e; exact absurd h e
  · rename_i e
    split at h
    · omega
    · omega

def fetchE (s : Pl) (P : List Int) (n : Int) : Int := if n < 0 ∨ (P.length : Int) < needZ n then 20 else fetE s (spots P n.toNat)
def fetchR (s : Pl) (P : List Int) (n : Int) : List Int := if fetchE s P n = 0 then fetV s (spots P n.toNat) else []

/-- whether each page has at least as many owners as it stands in the list -/
def relB (s : Pl) (P : List Int) : Bool := P.all fun z => decide ((P.count z : Int) ≤ owZ s z)
theorem relB_iff (s : Pl) (P : List Int) : relB s P = true ↔ ∀ z ∈ P, (P.count z : Int) ≤ owZ s z := by simp [relB]
def relE (s : Pl) (P : List Int) : Int := if relB s P = true then 0 else 25
def relS (s : Pl) (P : List Int) : Pl := if relB s P = true then P.foldl drS s else s

theorem Good.drops {m : Nat} (P : List Int) : ∀ {s : Pl}, Good m s → Good m (P.foldl Ytfggkkhehaafcaa.drS s) := by
  induction P with
  | nil => intro s h; exact h
  | cons z r ih => intro s h; exact ih (h.drS z)
theorem Good.relS {m : Nat} {s : Pl} (h : Good m s) (P : List Int) : Good m (relS s P) := by
  unfold Ytfggkkhehaafcaa.relS
  split
  · exact Good.drops P h
  · exact h

end Go.Proofs.Ytfggkkhehaafcaa
