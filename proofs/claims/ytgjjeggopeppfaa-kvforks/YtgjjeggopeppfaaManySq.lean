/- Several sequences with one pool, as plain values: each page has as many owners as sequences hold it; what single acts make of the pages. -/
import Derived.Test.YtgjjeggopeppfaaRows
import Derived.Test.YtgjjeggopeppfaaPages
import Derived.Test.YtgjjeggopeppfaaView
import Derived.Test.YtgjjeggopeppfaaOwn
import Derived.Test.YtgjjeggopeppfaaLeast
import Derived.Test.YtgjjeggopeppfaaLays
import Derived.Test.YtgjjeggopeppfaaTurns
import Derived.Test.YtgjjeggopeppfaaGoods
import Derived.Test.YtgjjeggopeppfaaLies
import Derived.Test.YtgjjeggopeppfaaSeqs
import Derived.Test.YtgjjeggopeppfaaSeqAt
import Derived.Test.YtgjjeggopeppfaaSeqRd
import Derived.Test.YtgjjeggopeppfaaReadsP
import Derived.Test.YtgjjeggopeppfaaReadsQ
import Derived.Test.YtgjjeggopeppfaaRoom1
import Derived.Test.YtgjjeggopeppfaaRows13
import Derived.WalkKit
import Derived.ProofKit
import Derived.OpenShut
import Derived.Below
import Derived.WalkLawsBesides
import Derived.Deep.QuietTactic
import Derived.BigQuiet
namespace Go.Proofs.Ytgjjeggopeppfaa
open Go.ChangeShapes Go.WideShapes Go.ChangeAt Go.RowKit
set_option linter.unusedVariables false
set_option linter.unusedSimpArgs false

/-- in how many of the first sequences a page stands -/
def sumC (Q : Nat → Sq) (K : Nat) (x : Nat) : Nat := match K with
  | 0 => 0
  | K + 1 => sumC Q K x + (Q K).P.count (x : Int)

theorem sumC_congr (Q Q' : Nat → Sq) (K x : Nat) (h : ∀ i, i < K → (Q i).P = (Q' i).P) : sumC Q K x = sumC Q' K x := by
  induction K with
  | zero => rfl
  | succ K ih => simp only [sumC]; rw [ih (fun i hi => h i (by omega)), h K (by omega)]
theorem sumC_upd (Q : Nat → Sq) (K i x : Nat) (q : Sq) (hi : i < K) : sumC (upd Q i q) K x + (Q i).P.count (x : Int) = sumC Q K x + q.P.count (x : Int) := by
  induction K with
  | zero => omega
  | succ K ih =>
    simp only [sumC]
    by_cases e : i = K
    · subst e
      rw [upd_same, sumC_congr (upd Q i q) Q i x (fun j hj => by rw [upd_other _ _ _ _ (by omega)])]
      omega
    · rw [upd_other _ _ _ _ (by omega)]
      have := ih (by omega)
      omega
theorem sumC_ge (Q : Nat → Sq) (K i x : Nat) (hi : i < K) : (Q i).P.count (x : Int) ≤ sumC Q K x := by
  induction K with
  | zero => omega
  | succ K ih =>
    simp only [sumC]
    by_cases e : i = K
    · subst e; omega
    · have := ih (by omega); omega
theorem sumC_ge2 (Q : Nat → Sq) (K i j x : Nat) (hi : i < K) (hj : j < K) (hne : i ≠ j) : (Q i).P.count (x : Int) + (Q j).P.count (x : Int) ≤ sumC Q K x := by
  induction K with
  | zero => omega
  | succ K ih =>
    simp only [sumC]
    by_cases e : i = K
    · subst e; have := sumC_ge Q i j x (by omega); omega
    · by_cases f : j = K
      · subst f; have := sumC_ge Q j i x (by omega); omega
      · have := ih (by omega) (by omega); omega
theorem sumC_snoc (Q : Nat → Sq) (K x : Nat) (q : Sq) : sumC (upd Q K q) (K + 1) x = sumC Q K x + q.P.count (x : Int) := by
  simp only [sumC]
  rw [upd_same, sumC_congr (upd Q K q) Q K x (fun j hj => by rw [upd_other _ _ _ _ (by omega)])]
theorem sumC_le (Q : Nat → Sq) (K x : Nat) (h : ∀ i, i < K → (Q i).P.Nodup) : sumC Q K x ≤ K := by
  induction K with
  | zero => exact Nat.le_refl _
  | succ K ih =>
    simp only [sumC]
    have := ih (fun i hi => h i (by omega))
    have := count_le_one (h K (by omega)) (x : Int)
    omega
theorem sumC_zero (Q : Nat → Sq) (K x : Nat) (h : ∀ i, i < K → (Q i).P = []) : sumC Q K x = 0 := by
  induction K with
  | zero => rfl
  | succ K ih => simp only [sumC]; rw [ih (fun i hi => h i (by omega)), h K (by omega)]; rfl

theorem Good.bound {m m' : Nat} {s : Pl} (h : Good m s) (hb : ∀ i, i < s.n → (s.pg i).ow ≤ m') : Good m' s := ⟨h.n0, h.n1, h.a0, h.a1, h.ow0, hb, h.tag⟩

/-- several sequences with one pool: each page has as many owners as sequences hold it -/
structure Many (N : Nat) (t : ByteArray) (wd : Nat) (s : Pl) (K : Nat) (Q : Nat → Sq) : Prop where
  good : Good 6 s
  few : K ≤ 6
  tne : ¬ t.toList = []
  n : s.n = N
  aside : s.aside = 0
  wf : Wf64 s
  ok : ∀ i, i < K → SqOk wd (Q i)
  nd : ∀ i, i < K → (Q i).P.Nodup
  inn : ∀ i, i < K → ∀ z ∈ (Q i).P, 0 ≤ z ∧ z < (N : Int)
  ow : ∀ x, x < N → (s.pg x).ow = (sumC Q K x : Int)
  tag : ∀ x, x < N → (s.pg x).ow ≠ 0 → (s.pg x).tag.toList = t.toList

theorem Many.used {N : Nat} {t : ByteArray} {wd : Nat} {s : Pl} {K : Nat} {Q : Nat → Sq} (h : Many N t wd s K Q) {i : Nat} (hi : i < K) {z : Int} (hz : z ∈ (Q i).P) : usedB s z = true ∧ 1 ≤ (s.pg z.toNat).ow := by
  obtain ⟨z0, z1⟩ := h.inn i hi z hz
  have h1 := sumC_ge Q K i z.toNat hi
  have h2 : 0 < (Q i).P.count z := List.count_pos_iff.2 hz
  have h3 := h.ow z.toNat (by omega)
  rw [Int.toNat_of_nonneg z0] at h1
  refine ⟨?_, by omega⟩
  unfold usedB
  rw [h.n]
  simp only [decide_eq_true_eq]
  exact ⟨z0, z1, by omega⟩
theorem Many.mem {N : Nat} {t : ByteArray} {wd : Nat} {s : Pl} {K : Nat} {Q : Nat → Sq} (h : Many N t wd s K Q) {i : Nat} (hi : i < K) : ∀ z ∈ (Q i).P, usedB s z = true := fun z hz => (h.used hi hz).1
/-- a page with one owner stands in one sequence alone -/
theorem Many.alone {N : Nat} {t : ByteArray} {wd : Nat} {s : Pl} {K : Nat} {Q : Nat → Sq} (h : Many N t wd s K Q) {i : Nat} (hi : i < K) {z : Int} (hz : z ∈ (Q i).P) (h1 : (s.pg z.toNat).ow ≤ 1) {j : Nat} (hj : j < K) (hne : j ≠ i) : z ∉ (Q j).P := fun hz' => by
  obtain ⟨z0, z1⟩ := h.inn i hi z hz
  have h2 := sumC_ge2 Q K i j z.toNat hi hj (Ne.symm hne)
  have h3 : 0 < (Q i).P.count z := List.count_pos_iff.2 hz
  have h4 : 0 < (Q j).P.count z := List.count_pos_iff.2 hz'
  have h5 := h.ow z.toNat (by omega)
  rw [Int.toNat_of_nonneg z0] at h2
  omega

theorem count_same {P : List Int} (hn : P.Nodup) {z : Int} (hz : z ∈ P) : P.count z = 1 := by
  have := count_le_one hn z
  have := List.count_pos_iff.2 hz
  omega

/-- one page is taken -/
theorem take_one {m : Nat} {s : Pl} (hG : Good m s) {t : ByteArray} (h0 : takeE s t 1 = 0) : takeS s t 1 = { s with pg := upd s.pg (takenZ s t).toNat (newPg t) } := by
  obtain ⟨r1, r2, r3, r4⟩ := takeR_one hG h0
  have e : takeR s t 1 = tk s.pg 1 s.n := by unfold takeR; rw [if_pos h0]; rfl
  rw [e] at r1
  unfold takeS
  rw [if_pos h0]
  have : takeP s.pg t (1 : Int).toNat s.n = upd s.pg (takenZ s t).toNat (newPg t) := by
    funext x
    have hm := tk_mem s.pg 1 s.n x
    rw [r1, List.mem_singleton] at hm
    simp only [takeP, upd, show (1 : Int).toNat = 1 from rfl]
    by_cases c : x = (takenZ s t).toNat
    · rw [if_pos c, if_pos (hm.1 (by omega))]
    · rw [if_neg c, if_neg (fun y => c (by have := hm.2 y; omega))]
  rw [this]

theorem upd_self {α : Type} (f : Nat → α) (i : Nat) : upd f i (f i) = f := by
  funext j
  simp only [upd]
  split
  · rename_i e; rw [e]
  · rfl
theorem used_upd {s : Pl} {y : Int} {p : Nat → Pg} (hu : usedB s y = true) (ho : (p y.toNat).ow ≠ 0) : usedB { s with pg := p } y = true := by
  obtain ⟨h0, h1, _⟩ := used_of hu
  unfold usedB
  simp only [decide_eq_true_eq]
  exact ⟨h0, h1, ho⟩
theorem copy_all {s : Pl} {x y : Int} (hx : usedB s x = true) (hy : usedB s y = true) (hne : x ≠ y) : ∀ k, k ≤ 32 → copyTo s x y k = { s with pg := upd s.pg y.toNat { s.pg y.toNat with cell := fun c => if c < k then (s.pg x.toNat).cell c else (s.pg y.toNat).cell c } } := by
  obtain ⟨x0, x1, x2⟩ := used_of hx
  obtain ⟨y0, y1, y2⟩ := used_of hy
  have hxy : x.toNat ≠ y.toNat := by omega
  intro k
  induction k with
  | zero =>
    intro _
    simp only [copyTo, Nat.not_lt_zero, if_false]
    show s = { s with pg := upd s.pg y.toNat (s.pg y.toNat) }
    rw [upd_self]
  | succ k ih =>
    intro hk
    simp only [copyTo]
    rw [ih (by omega)]
    have u1 : usedB { s with pg := upd s.pg y.toNat { s.pg y.toNat with cell := fun c => if c < k then (s.pg x.toNat).cell c else (s.pg y.toNat).cell c } } x = true := used_upd hx (by rw [upd_other _ _ _ _ hxy]; exact x2)
    have u2 : usedB { s with pg := upd s.pg y.toNat { s.pg y.toNat with cell := fun c => if c < k then (s.pg x.toNat).cell c else (s.pg y.toNat).cell c } } y = true := used_upd hy (by rw [upd_same]; exact y2)
    unfold putS getV
    rw [if_pos (get_ok u2 (by omega) (by omega)), if_pos (get_ok u1 (by omega) (by omega))]
    simp only [upd_same, upd_upd, Int.toNat_natCast]
    rw [upd_other _ _ _ _ hxy]
    congr 3
    funext c
    simp only [upd]
    by_cases e : c = k
    · subst e; rw [if_pos rfl, if_pos (by omega)]
    · rw [if_neg e]
      by_cases f : c < k
      · rw [if_pos f, if_pos (by omega)]
      · rw [if_neg f, if_neg (by omega)]
theorem row_all {s : Pl} {z : Int} (hz : usedB s z = true) (C : Nat) (zs : List Int) : ∀ k, C + k ≤ 32 → rowTo s z C zs k = { s with pg := upd s.pg z.toNat { s.pg z.toNat with cell := fun c => if C ≤ c ∧ c < C + k then zs.getD (c - C) 0 else (s.pg z.toNat).cell c } } := by
  obtain ⟨z0, z1, z2⟩ := used_of hz
  intro k
  induction k with
  | zero =>
    intro _
    simp only [rowTo]
    have e : ∀ c, ¬ (C ≤ c ∧ c < C + 0) := fun c h => by omega
    simp only [e, if_false]
    show s = { s with pg := upd s.pg z.toNat (s.pg z.toNat) }
    rw [upd_self]
  | succ k ih =>
    intro hk
    simp only [rowTo]
    rw [ih (by omega)]
    have u2 : usedB { s with pg := upd s.pg z.toNat { s.pg z.toNat with cell := fun c => if C ≤ c ∧ c < C + k then zs.getD (c - C) 0 else (s.pg z.toNat).cell c } } z = true := used_upd hz (by rw [upd_same]; exact z2)
    unfold putS
    rw [if_pos (get_ok u2 (by omega) (by omega))]
    simp only [upd_same, upd_upd]
    congr 3
    funext c
    have ec : ((C : Int) + (k : Int)).toNat = C + k := by omega
    simp only [upd, ec]
    by_cases e : c = C + k
    · subst e; rw [if_pos rfl, if_pos ⟨by omega, by omega⟩, Nat.add_sub_cancel_left]
    · rw [if_neg e]
      by_cases f : C ≤ c ∧ c < C + k
      · rw [if_pos f, if_pos ⟨f.1, by omega⟩]
      · rw [if_neg f, if_neg (fun y => f ⟨y.1, by omega⟩)]
theorem drop_two {s : Pl} {z : Int} (hz : usedB s z = true) (h2 : 2 ≤ (s.pg z.toNat).ow) : drS s z = { s with pg := upd s.pg z.toNat { s.pg z.toNat with ow := (s.pg z.toNat).ow - 1 } } := by
  unfold drS dropPg
  rw [if_pos hz, if_neg (by omega)]
theorem freeTo_take (p : Nat → Pg) (i n : Nat) (q : Pg) (hi : i < n) (h : (p i).ow = 0) (hq : q.ow ≠ 0) : freeTo (upd p i q) n + 1 = freeTo p n := by
  induction n with
  | zero => omega
  | succ n ih =>
    simp only [freeTo]
    by_cases e : n = i
    · subst e
      rw [upd_same, if_neg hq, if_pos h, freeTo_congr (upd p n q) p n (fun x hx => by rw [upd_other _ _ _ _ (by omega)])]
    · rw [upd_other _ _ _ _ e]
      have := ih (by omega)
      omega
theorem freeTo_same (p : Nat → Pg) (i n : Nat) (q : Pg) (h : (p i).ow ≠ 0) (hq : q.ow ≠ 0) : freeTo (upd p i q) n = freeTo p n := by
  induction n with
  | zero => rfl
  | succ n ih =>
    simp only [freeTo]
    rw [ih]
    by_cases e : n = i
    · subst e
      rw [upd_same, if_neg hq, if_neg h]
    · rw [upd_other _ _ _ _ e]

end Go.Proofs.Ytgjjeggopeppfaa
