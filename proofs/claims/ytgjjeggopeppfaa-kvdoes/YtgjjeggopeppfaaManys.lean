/- Texts put together: ManySq, ManyRoom, ManyActs. -/
import Derived.Test.YtgjjeggopeppfaaRows
import Derived.Test.YtgjjeggopeppfaaPages
import Derived.Test.YtgjjeggopeppfaaBasis
import Derived.Test.YtgjjeggopeppfaaLeast
import Derived.Test.YtgjjeggopeppfaaLays
import Derived.Test.YtgjjeggopeppfaaTurns
import Derived.Test.YtgjjeggopeppfaaGoods
import Derived.Test.YtgjjeggopeppfaaLies
import Derived.Test.YtgjjeggopeppfaaSeqP
import Derived.Test.YtgjjeggopeppfaaSeqRN
import Derived.Test.YtgjjeggopeppfaaReadsB
import Derived.Test.YtgjjeggopeppfaaRooms
import Derived.Test.YtgjjeggopeppfaaRows13
import Derived.WalkKit
import Derived.ProofKit
import Derived.OpenShut
import Derived.Below
import Derived.WalkLawsBesides
import Derived.Deep.QuietTactic
import Derived.BigQuiet
import Derived.Test.YtgjjeggopeppfaaNews
import Derived.Test.YtgjjeggopeppfaaForks
namespace Go.Proofs.Ytgjjeggopeppfaa

/- Several sequences with one pool, as plain values: each page has as many owners as sequences hold it; what single acts make of the pages. -/
section
open Go.ChangeShapes Go.WideShapes Go.ChangeAt Go.RowKit
set_option linter.unusedVariables false
set_option linter.unusedSimpArgs false

/-- in how many of the first sequences a page stands -/
def sumC (Q : Nat → Sq) (K : Nat) (x : Nat) : Nat := match K with
  | 0 => 0
  | K + 1 => sumC Q K x + (Q K).P.count (x : Int)

theorem sumC_congr (Q Q' : Nat → Sq) (K x : Nat) (h : ∀ i, i < K → (Q i).P = (Q' i).P) : sumC Q K x = sumC Q' K x := by
  induction K with
  | zero => rfl
  | succ K ih => simp only [sumC]; rw [ih (fun i hi => h i (by omega)), h K (by omega)]
theorem sumC_upd (Q : Nat → Sq) (K i x : Nat) (q : Sq) (hi : i < K) : sumC (upd Q i q) K x + (Q i).P.count (x : Int) = sumC Q K x + q.P.count (x : Int) := by
  induction K with
  | zero => omega
  | succ K ih =>
    simp only [sumC]
    by_cases e : i = K
    · subst e
      rw [upd_same, sumC_congr (upd Q i q) Q i x (fun j hj => by rw [upd_other _ _ _ _ (by omega)])]
      omega
    · rw [upd_other _ _ _ _ (by omega)]
      have := ih (by omega)
      omega
theorem sumC_ge (Q : Nat → Sq) (K i x : Nat) (hi : i < K) : (Q i).P.count (x : Int) ≤ sumC Q K x := by
  induction K with
  | zero => omega
  | succ K ih =>
    simp only [sumC]
    by_cases e : i = K
    · subst e; omega
    · have := ih (by omega); omega
theorem sumC_ge2 (Q : Nat → Sq) (K i j x : Nat) (hi : i < K) (hj : j < K) (hne : i ≠ j) : (Q i).P.count (x : Int) + (Q j).P.count (x : Int) ≤ sumC Q K x := by
  induction K with
  | zero => omega
  | succ K ih =>
    simp only [sumC]
    by_cases e : i = K
    · subst e; have := sumC_ge Q i j x (by omega); omega
    · by_cases f : j = K
      · subst f; have := sumC_ge Q j i x (by omega); omega
      · have := ih (by omega) (by omega); omega
theorem sumC_snoc (Q : Nat → Sq) (K x : Nat) (q : Sq) : sumC (upd Q K q) (K + 1) x = sumC Q K x + q.P.count (x : Int) := by
  simp only [sumC]
  rw [upd_same, sumC_congr (upd Q K q) Q K x (fun j hj => by rw [upd_other _ _ _ _ (by omega)])]
theorem sumC_le (Q : Nat → Sq) (K x : Nat) (h : ∀ i, i < K → (Q i).P.Nodup) : sumC Q K x ≤ K := by
  induction K with
  | zero => exact Nat.le_refl _
  | succ K ih =>
    simp only [sumC]
    have := ih (fun i hi => h i (by omega))
    have := count_le_one (h K (by omega)) (x : Int)
    omega
theorem sumC_zero (Q : Nat → Sq) (K x : Nat) (h : ∀ i, i < K → (Q i).P = []) : sumC Q K x = 0 := by
  induction K with
  | zero => rfl
  | succ K ih => simp only [sumC]; rw [ih (fun i hi => h i (by omega)), h K (by omega)]; rfl

theorem Good.bound {m m' : Nat} {s : Pl} (h : Good m s) (hb : ∀ i, i < s.n → (s.pg i).ow ≤ m') : Good m' s := ⟨h.n0, h.n1, h.a0, h.a1, h.ow0, hb, h.tag⟩

/-- several sequences with one pool: each page has as many owners as sequences hold it -/
structure Many (N : Nat) (t : ByteArray) (wd : Nat) (s : Pl) (K : Nat) (Q : Nat → Sq) : Prop where
  good : Good 6 s
  few : K ≤ 6
  tne : ¬ t.toList = []
  n : s.n = N
  aside : s.aside = 0
  wf : Wf64 s
  ok : ∀ i, i < K → SqOk wd (Q i)
  nd : ∀ i, i < K → (Q i).P.Nodup
  inn : ∀ i, i < K → ∀ z ∈ (Q i).P, 0 ≤ z ∧ z < (N : Int)
  ow : ∀ x, x < N → (s.pg x).ow = (sumC Q K x : Int)
  tag : ∀ x, x < N → (s.pg x).ow ≠ 0 → (s.pg x).tag.toList = t.toList

theorem Many.used {N : Nat} {t : ByteArray} {wd : Nat} {s : Pl} {K : Nat} {Q : Nat → Sq} (h : Many N t wd s K Q) {i : Nat} (hi : i < K) {z : Int} (hz : z ∈ (Q i).P) : usedB s z = true ∧ 1 ≤ (s.pg z.toNat).ow := by
  obtain ⟨z0, z1⟩ := h.inn i hi z hz
  have h1 := sumC_ge Q K i z.toNat hi
  have h2 : 0 < (Q i).P.count z := List.count_pos_iff.2 hz
  have h3 := h.ow z.toNat (by omega)
  rw [Int.toNat_of_nonneg z0] at h1
  refine ⟨?_, by omega⟩
  unfold usedB
  rw [h.n]
  simp only [decide_eq_true_eq]
  exact ⟨z0, z1, by omega⟩
theorem Many.mem {N : Nat} {t : ByteArray} {wd : Nat} {s : Pl} {K : Nat} {Q : Nat → Sq} (h : Many N t wd s K Q) {i : Nat} (hi : i < K) : ∀ z ∈ (Q i).P, usedB s z = true := fun z hz => (h.used hi hz).1
/-- a page with one owner stands in one sequence alone -/
theorem Many.alone {N : Nat} {t : ByteArray} {wd : Nat} {s : Pl} {K : Nat} {Q : Nat → Sq} (h : Many N t wd s K Q) {i : Nat} (hi : i < K) {z : Int} (hz : z ∈ (Q i).P) (h1 : (s.pg z.toNat).ow ≤ 1) {j : Nat} (hj : j < K) (hne : j ≠ i) : z ∉ (Q j).P := fun hz' => by
  obtain ⟨z0, z1⟩ := h.inn i hi z hz
  have h2 := sumC_ge2 Q K i j z.toNat hi hj (Ne.symm hne)
  have h3 : 0 < (Q i).P.count z := List.count_pos_iff.2 hz
  have h4 : 0 < (Q j).P.count z := List.count_pos_iff.2 hz'
  have h5 := h.ow z.toNat (by omega)
  rw [Int.toNat_of_nonneg z0] at h2
  omega

theorem count_same {P : List Int} (hn : P.Nodup) {z : Int} (hz : z ∈ P) : P.count z = 1 := by
  have := count_le_one hn z
  have := List.count_pos_iff.2 hz
  omega

/-- one page is taken -/
theorem take_one {m : Nat} {s : Pl} (hG : Good m s) {t : ByteArray} (h0 : takeE s t 1 = 0) : takeS s t 1 = { s with pg := upd s.pg (takenZ s t).toNat (newPg t) } := by
  obtain ⟨r1, r2, r3, r4⟩ := takeR_one hG h0
  have e : takeR s t 1 = tk s.pg 1 s.n := by unfold takeR; rw [if_pos h0]; rfl
  rw [e] at r1
  unfold takeS
  rw [if_pos h0]
  have : takeP s.pg t (1 : Int).toNat s.n = upd s.pg (takenZ s t).toNat (newPg t) := by
    funext x
    have hm := tk_mem s.pg 1 s.n x
    rw [r1, List.mem_singleton] at hm
    simp only [takeP, upd, show (1 : Int).toNat = 1 from rfl]
    by_cases c : x = (takenZ s t).toNat
    · rw [if_pos c, if_pos (hm.1 (by omega))]
    · rw [if_neg c, if_neg (fun y => c (by have := hm.2 y; omega))]
  rw [this]

theorem upd_self {α : Type} (f : Nat → α) (i : Nat) : upd f i (f i) = f := by
  funext j
  simp only [upd]
  split
  · rename_i e; rw [e]
  · rfl
theorem used_upd {s : Pl} {y : Int} {p : Nat → Pg} (hu : usedB s y = true) (ho : (p y.toNat).ow ≠ 0) : usedB { s with pg := p } y = true := by
  obtain ⟨h0, h1, _⟩ := used_of hu
  unfold usedB
  simp only [decide_eq_true_eq]
  exact ⟨h0, h1, ho⟩
theorem copy_all {s : Pl} {x y : Int} (hx : usedB s x = true) (hy : usedB s y = true) (hne : x ≠ y) : ∀ k, k ≤ 32 → copyTo s x y k = { s with pg := upd s.pg y.toNat { s.pg y.toNat with cell := fun c => if c < k then (s.pg x.toNat).cell c else (s.pg y.toNat).cell c } } := by
  obtain ⟨x0, x1, x2⟩ := used_of hx
  obtain ⟨y0, y1, y2⟩ := used_of hy
  have hxy : x.toNat ≠ y.toNat := by omega
  intro k
  induction k with
  | zero =>
    intro _
    simp only [copyTo, Nat.not_lt_zero, if_false]
    show s = { s with pg := upd s.pg y.toNat (s.pg y.toNat) }
    rw [upd_self]
  | succ k ih =>
    intro hk
    simp only [copyTo]
    rw [ih (by omega)]
    have u1 : usedB { s with pg := upd s.pg y.toNat { s.pg y.toNat with cell := fun c => if c < k then (s.pg x.toNat).cell c else (s.pg y.toNat).cell c } } x = true := used_upd hx (by rw [upd_other _ _ _ _ hxy]; exact x2)
    have u2 : usedB { s with pg := upd s.pg y.toNat { s.pg y.toNat with cell := fun c => if c < k then (s.pg x.toNat).cell c else (s.pg y.toNat).cell c } } y = true := used_upd hy (by rw [upd_same]; exact y2)
    unfold putS getV
    rw [if_pos (get_ok u2 (by omega) (by omega)), if_pos (get_ok u1 (by omega) (by omega))]
    simp only [upd_same, upd_upd, Int.toNat_natCast]
    rw [upd_other _ _ _ _ hxy]
    congr 3
    funext c
    simp only [upd]
    by_cases e : c = k
    · subst e; rw [if_pos rfl, if_pos (by omega)]
    · rw [if_neg e]
      by_cases f : c < k
      · rw [if_pos f, if_pos (by omega)]
      · rw [if_neg f, if_neg (by omega)]
theorem row_all {s : Pl} {z : Int} (hz : usedB s z = true) (C : Nat) (zs : List Int) : ∀ k, C + k ≤ 32 → rowTo s z C zs k = { s with pg := upd s.pg z.toNat { s.pg z.toNat with cell := fun c => if C ≤ c ∧ c < C + k then zs.getD (c - C) 0 else (s.pg z.toNat).cell c } } := by
  obtain ⟨z0, z1, z2⟩ := used_of hz
  intro k
  induction k with
  | zero =>
    intro _
    simp only [rowTo]
    have e : ∀ c, ¬ (C ≤ c ∧ c < C + 0) := fun c h => by omega
    simp only [e, if_false]
    show s = { s with pg := upd s.pg z.toNat (s.pg z.toNat) }
    rw [upd_self]
  | succ k ih =>
    intro hk
    simp only [rowTo]
    rw [ih (by omega)]
    have u2 : usedB { s with pg := upd s.pg z.toNat { s.pg z.toNat with cell := fun c => if C ≤ c ∧ c < C + k then zs.getD (c - C) 0 else (s.pg z.toNat).cell c } } z = true := used_upd hz (by rw [upd_same]; exact z2)
    unfold putS
    rw [if_pos (get_ok u2 (by omega) (by omega))]
    simp only [upd_same, upd_upd]
    congr 3
    funext c
    have ec : ((C : Int) + (k : Int)).toNat = C + k := by omega
    simp only [upd, ec]
    by_cases e : c = C + k
    · subst e; rw [if_pos rfl, if_pos ⟨by omega, by omega⟩, Nat.add_sub_cancel_left]
    · rw [if_neg e]
      by_cases f : C ≤ c ∧ c < C + k
      · rw [if_pos f, if_pos ⟨f.1, by omega⟩]
      · rw [if_neg f, if_neg (fun y => f ⟨y.1, by omega⟩)]
theorem drop_two {s : Pl} {z : Int} (hz : usedB s z = true) (h2 : 2 ≤ (s.pg z.toNat).ow) : drS s z = { s with pg := upd s.pg z.toNat { s.pg z.toNat with ow := (s.pg z.toNat).ow - 1 } } := by
  unfold drS dropPg
  rw [if_pos hz, if_neg (by omega)]
theorem freeTo_take (p : Nat → Pg) (i n : Nat) (q : Pg) (hi : i < n) (h : (p i).ow = 0) (hq : q.ow ≠ 0) : freeTo (upd p i q) n + 1 = freeTo p n := by
  induction n with
  | zero => omega
  | succ n ih =>
    simp only [freeTo]
    by_cases e : n = i
    · subst e
      rw [upd_same, if_neg hq, if_pos h, freeTo_congr (upd p n q) p n (fun x hx => by rw [upd_other _ _ _ _ (by omega)])]
    · rw [upd_other _ _ _ _ e]
      have := ih (by omega)
      omega
theorem freeTo_same (p : Nat → Pg) (i n : Nat) (q : Pg) (h : (p i).ow ≠ 0) (hq : q.ow ≠ 0) : freeTo (upd p i q) n = freeTo p n := by
  induction n with
  | zero => rfl
  | succ n ih =>
    simp only [freeTo]
    rw [ih]
    by_cases e : n = i
    · subst e
      rw [upd_same, if_neg hq, if_neg h]
    · rw [upd_other _ _ _ _ e]
end

/- Room for a row among several sequences: the page is the sequence's alone, what the others hold stays. -/
section
open Go.ChangeShapes Go.WideShapes Go.ChangeAt Go.RowKit
set_option linter.unusedVariables false
set_option linter.unusedSimpArgs false

/-- behind makeRoom: the page Z into which the next row goes is this sequence's alone -/
structure Roomed (N : Nat) (t : ByteArray) (wd : Nat) (s s1 : Pl) (K : Nat) (Q : Nat → Sq) (i : Nat) (P1 : List Int) (Z : Int) : Prop where
  n : s1.n = N
  aside : s1.aside = 0
  good : Good 6 s1
  wf : Wf64 s1
  nd : P1.Nodup
  inn : ∀ z ∈ P1, 0 ≤ z ∧ z < (N : Int)
  ow : ∀ x, x < N → (s1.pg x).ow + ((Q i).P.count (x : Int) : Int) = (sumC Q K x : Int) + (P1.count (x : Int) : Int)
  tag : ∀ x, x < N → (s1.pg x).ow ≠ 0 → (s1.pg x).tag.toList = t.toList
  z1 : Z ∈ P1
  zi : pageZ wd P1 (Q i).st (Q i).n = Z
  used : usedB s1 Z = true
  oth : ∀ j, j < K → j ≠ i → Z ∉ (Q j).P
  cellO : ∀ j, j < K → j ≠ i → ∀ z ∈ (Q j).P, (s1.pg z.toNat).cell = (s.pg z.toNat).cell
  cellI : ∀ k, k < (Q i).P.length → ∀ c, c < 32 → (s1.pg (P1.getD k 0).toNat).cell c = (s.pg ((Q i).P.getD k 0).toNat).cell c
  free : freeTo s1.pg N + (if needB wd s (Q i) = true then 1 else 0) = freeTo s.pg N

theorem last_idx {wd : Nat} {q : Sq} (hq : SqOk wd q) (hf : fitB wd q = true) : (q.n - q.st) / (32 / wd) = q.P.length - 1 := by
  have h1 := (fit_iff hq).1 hf
  have h2 := hq.lo
  have h3 := fit_len hq hf
  have hr := hq.rr
  generalize 32 / wd = r at h1 h2 hr
  obtain ⟨L, hL⟩ : ∃ L, q.P.length = L + 1 := ⟨q.P.length - 1, by omega⟩
  rw [hL] at h1 h2 ⊢
  rw [Nat.add_mul, Nat.one_mul] at h1 h2
  rw [Nat.add_sub_cancel]
  exact Nat.div_eq_of_lt_le (by omega) (by rw [Nat.add_mul, Nat.one_mul]; omega)
theorem next_idx {wd : Nat} {q : Sq} (hq : SqOk wd q) (hf : fitB wd q = false) : (q.n - q.st) / (32 / wd) = q.P.length := by
  rw [fit_no hq hf]
  exact Nat.mul_div_cancel _ (by have := hq.rr; omega)
theorem lastZ_mem {P : List Int} (h : 0 < P.length) : lastZ P ∈ P := getD_mem (by omega)
theorem getD_set {P : List Int} {i j : Nat} {y : Int} (hi : i < P.length) : (P.set i y).getD j 0 = if j = i then y else P.getD j 0 := by
  simp only [List.getD, List.getElem?_set]
  by_cases e : i = j
  · subst e; simp [hi]
  · rw [if_neg e, if_neg (Ne.symm e)]
theorem set_mem {P : List Int} {i : Nat} {y z : Int} (hz : z ∈ P.set i y) : z = y ∨ z ∈ P := (List.mem_or_eq_of_mem_set hz).symm
theorem getD_append {P : List Int} {y : Int} {j : Nat} (hj : j < P.length) : (P ++ [y]).getD j 0 = P.getD j 0 := by simp [List.getD, List.getElem?_append_left hj]
theorem getD_end {P : List Int} {y : Int} : (P ++ [y]).getD P.length 0 = y := by simp [List.getD]
theorem set_split {P : List Int} (h : 0 < P.length) (y : Int) : ∃ A, P = A ++ [lastZ P] ∧ P.set (P.length - 1) y = A ++ [y] := by
  have hne : P ≠ [] := by intro e; rw [e] at h; simp at h
  refine ⟨P.dropLast, ?_, ?_⟩
  · have e : lastZ P = P.getLast hne := by
      unfold lastZ
      rw [List.getLast_eq_getElem]
      simp [List.getD, show P.length - 1 < P.length by omega]
    rw [e]
    exact (List.dropLast_concat_getLast hne).symm
  · conv => lhs; rw [← List.dropLast_concat_getLast hne]
    have e : (P.dropLast ++ [P.getLast hne]).length - 1 = P.dropLast.length := by simp
    rw [e, List.set_append_right _ _ (Nat.le_refl _)]
    simp

theorem Wf64.upd {s : Pl} (h : Wf64 s) {i : Nat} {q : Pg} (hq : ∀ j, (Lit.int .i64 (q.cell j)).wf = true) : Wf64 { s with pg := Ytgjjeggopeppfaa.upd s.pg i q } := fun a b => by
  show (Lit.int .i64 ((Ytgjjeggopeppfaa.upd s.pg i q a).cell b)).wf = true
  by_cases e : a = i
  · subst e; rw [upd_same]; exact hq b
  · rw [upd_other _ _ _ _ e]; exact h a b

theorem Many.roomed {N : Nat} {t : ByteArray} {wd : Nat} {s : Pl} {K : Nat} {Q : Nat → Sq} (h : Many N t wd s K Q) {i : Nat} (hi : i < K) (h0 : roomE wd t s (Q i) = 0) : Roomed N t wd s (roomS wd t s (Q i)) K Q i (roomP wd t s (Q i)) (lastZ (roomP wd t s (Q i))) := by
  have hq := h.ok i hi
  have hnd := h.nd i hi
  have hinn := h.inn i hi
  have hN := h.n
  by_cases hn : needB wd s (Q i) = true
  · have hE := roomE_zero h0 hn
    obtain ⟨r1, r2, r3, r4⟩ := takeR_one h.good hE
    have hT := take_one h.good hE
    have hG1 := h.good.roomS (wd := wd) (by decide) t (Q i)
    have yno : ∀ j, j < K → takenZ s t ∉ (Q j).P := fun j hj hz => by
      have := (h.used hj hz).2
      omega
    have yc : ∀ x : Nat, ∀ j, j < K → (x : Int) ∈ (Q j).P → x ≠ (takenZ s t).toNat := fun x j hj hx e => yno j hj (by rw [← Int.toNat_of_nonneg r2, ← e]; exact hx)
    have ysum : sumC Q K (takenZ s t).toNat = 0 := by have := h.ow (takenZ s t).toNat (by omega); omega
    by_cases hf : fitB wd (Q i) = true
    · -- the last page is copied
      have hl := fit_len hq hf
      have hm := lastZ_mem hl
      obtain ⟨u1, u2⟩ := h.used hi hm
      have how : 2 ≤ (s.pg (lastZ (Q i).P).toNat).ow := by
        unfold needB at hn
        rw [hf] at hn
        simp only [Bool.true_and, Bool.not_eq_true', decide_eq_false_iff_not] at hn
        unfold owZ at hn
        rw [if_pos u1] at hn
        omega
      have eS : roomS wd t s (Q i) = drS (copyTo (takeS s t 1) (lastZ (Q i).P) (takenZ s t) 32) (lastZ (Q i).P) := by unfold roomS; rw [if_pos ⟨hn, hE⟩, if_pos hf]
      have eP : roomP wd t s (Q i) = (Q i).P.set ((Q i).P.length - 1) (takenZ s t) := by unfold roomP; rw [if_pos ⟨hn, hE⟩, if_pos hf]
      obtain ⟨x0, x1, x2⟩ := used_of u1
      obtain ⟨A, eA, eB⟩ := set_split hl (takenZ s t)
      obtain ⟨X, eX⟩ : ∃ X, lastZ (Q i).P = X := ⟨_, rfl⟩
      rw [eX] at hm u1 u2 how eS x0 x1 x2 eA
      obtain ⟨y, ey⟩ : ∃ y, takenZ s t = y := ⟨_, rfl⟩
      rw [ey] at r1 r2 r3 r4 hT yno ysum eS eP eB
      simp only [ey] at yc
      have hXy : X ≠ y := fun e => yno i hi (by rw [← e]; exact hm)
      have hXy' : X.toNat ≠ y.toNat := by omega
      have t1 : usedB (takeS s t 1) X = true := by rw [hT]; exact used_upd u1 (by rw [upd_other _ _ _ _ hXy']; exact x2)
      have t2 : usedB (takeS s t 1) y = true := by
        rw [hT]
        unfold usedB
        simp only [upd_same, decide_eq_true_eq]
        exact ⟨r2, r3, by show (1 : Int) ≠ 0; decide⟩
      have hC := copy_all t1 t2 hXy 32 (Nat.le_refl _)
      rw [hT] at hC
      simp only [upd_same, upd_upd] at hC
      rw [upd_other _ _ _ _ hXy'] at hC
      have t3 : usedB (copyTo (takeS s t 1) X y 32) X = true := by rw [hT, hC]; exact used_upd u1 (by rw [upd_other _ _ _ _ hXy']; exact x2)
      have hD := drop_two t3 (by rw [hT, hC]; show 2 ≤ (upd s.pg y.toNat _ X.toNat).ow; rw [upd_other _ _ _ _ hXy']; exact how)
      rw [hT, hC] at hD
      simp only at hD
      rw [upd_other _ _ _ _ hXy'] at hD
      rw [hT, hC] at eS
      rw [hD] at eS
      have ndB : (A ++ [y]).Nodup := by
        rw [eA] at hnd
        refine List.nodup_append.2 ⟨(List.nodup_append.1 hnd).1, by simp, fun a ha b hb => ?_⟩
        simp at hb
        subst hb
        exact fun e => yno i hi (by rw [eA, ← e]; simp [ha])
      have pgX : (roomS wd t s (Q i)).pg X.toNat = { s.pg X.toNat with ow := (s.pg X.toNat).ow - 1 } := by rw [eS]; show upd _ X.toNat _ X.toNat = _; rw [upd_same]
      have pgY : (roomS wd t s (Q i)).pg y.toNat = ⟨t, 1, fun c => if c < 32 then (s.pg X.toNat).cell c else 0⟩ := by rw [eS]; show upd _ X.toNat _ y.toNat = _; rw [upd_other _ _ _ _ (Ne.symm hXy'), upd_same]; rfl
      have pgO : ∀ x, x ≠ X.toNat → x ≠ y.toNat → (roomS wd t s (Q i)).pg x = s.pg x := fun x h1 h2 => by rw [eS]; show upd _ X.toNat _ x = _; rw [upd_other _ _ _ _ h1, upd_other _ _ _ _ h2]
      have hsn : (roomS wd t s (Q i)).n = N := by rw [eS]; exact hN
      have lastN : lastZ (roomP wd t s (Q i)) = y := by
        rw [eP]
        unfold lastZ
        rw [List.length_set, getD_set (by omega), if_pos rfl]
      refine ⟨hsn, by rw [eS]; exact h.aside, hG1, ?_, by rw [eP, eB]; exact ndB, fun z hz => ?_, fun x hx => ?_, fun x hx ho => ?_, ?_, ?_, ?_, fun j hj hne => ?_, fun j hj hne z hz => ?_, fun k hk c hc => ?_, ?_⟩
      · intro a b
        by_cases e1 : a = X.toNat
        · rw [e1, pgX]; exact h.wf _ _
        · by_cases e2 : a = y.toNat
          · rw [e2, pgY]
            show (Lit.int .i64 (if b < 32 then (s.pg X.toNat).cell b else 0)).wf = true
            split
            · exact h.wf _ _
            · exact wf_nought _
          · rw [pgO a e1 e2]; exact h.wf _ _
      · rw [eP] at hz
        rcases set_mem hz with rfl | hz
        · exact ⟨r2, by rw [← hN]; exact r3⟩
        · exact hinn z hz
      · have hc : (roomP wd t s (Q i)).count (x : Int) = A.count (x : Int) + (if y = (x : Int) then 1 else 0) := by rw [eP, eB, List.count_append]; simp [List.count_cons]
        have hd : (Q i).P.count (x : Int) = A.count (x : Int) + (if X = (x : Int) then 1 else 0) := by rw [eA, List.count_append]; simp [List.count_cons]
        have how' := h.ow x hx
        rw [hc, hd]
        by_cases e1 : x = X.toNat
        · subst e1
          rw [pgX, if_pos (by omega), if_neg (by omega)]
          show (s.pg X.toNat).ow - 1 + _ = _
          omega
        · by_cases e2 : x = y.toNat
          · subst e2
            rw [pgY, if_neg (by omega), if_pos (by omega)]
            show (1 : Int) + _ = _
            omega
          · rw [pgO x e1 e2, if_neg (by omega), if_neg (by omega)]
            omega
      · by_cases e1 : x = X.toNat
        · rw [e1, pgX]; exact h.tag _ (by omega) x2
        · by_cases e2 : x = y.toNat
          · rw [e2, pgY]
          · rw [pgO x e1 e2] at ho ⊢
            exact h.tag x hx ho
      · rw [lastN, eP, eB]; simp
      · rw [lastN]
        unfold pageZ
        rw [last_idx hq hf, eP, getD_set (by omega), if_pos rfl]
      · rw [lastN]
        unfold usedB
        rw [hsn, pgY]
        simp only [decide_eq_true_eq]
        exact ⟨r2, by rw [← hN]; exact r3, by decide⟩
      · rw [lastN]; exact yno j hj
      · obtain ⟨z0, z1⟩ := h.inn j hj z hz
        have e2 : z.toNat ≠ y.toNat := yc z.toNat j hj (by rw [Int.toNat_of_nonneg z0]; exact hz)
        by_cases e1 : z.toNat = X.toNat
        · rw [e1, pgX]
        · rw [pgO _ e1 e2]
      · rw [eP, getD_set (by omega)]
        by_cases e : k = (Q i).P.length - 1
        · rw [if_pos e, pgY, e]
          show (if c < 32 then (s.pg X.toNat).cell c else 0) = _
          rw [if_pos hc, ← eX]
          rfl
        · rw [if_neg e]
          have hz := getD_mem hk
          obtain ⟨z0, z1⟩ := hinn _ hz
          have e2 : ((Q i).P.getD k 0).toNat ≠ y.toNat := yc _ i hi (by rw [Int.toNat_of_nonneg z0]; exact hz)
          have e1 : ((Q i).P.getD k 0).toNat ≠ X.toNat := fun e' => e (getD_inj hnd hk (by omega) (by have : lastZ (Q i).P = (Q i).P.getD ((Q i).P.length - 1) 0 := rfl; rw [eX] at this; omega))
          rw [pgO _ e1 e2]
      · rw [if_pos hn, eS]
        show freeTo (upd (upd s.pg y.toNat _) X.toNat _) N + 1 = _
        rw [freeTo_same _ _ _ _ (by rw [upd_other _ _ _ _ hXy']; exact x2) (by show (s.pg X.toNat).ow - 1 ≠ 0; omega)]
        exact freeTo_take s.pg y.toNat N _ (by omega) r4 (by show (1 : Int) ≠ 0; decide)
    · -- a page comes behind
      have hf' : fitB wd (Q i) = false := by simpa using hf
      have eS : roomS wd t s (Q i) = takeS s t 1 := by unfold roomS; rw [if_pos ⟨hn, hE⟩, if_neg hf]
      have eP : roomP wd t s (Q i) = (Q i).P ++ [takenZ s t] := by unfold roomP; rw [if_pos ⟨hn, hE⟩, if_neg hf]
      rw [hT] at eS
      obtain ⟨y, ey⟩ : ∃ y, takenZ s t = y := ⟨_, rfl⟩
      rw [ey] at r1 r2 r3 r4 yno ysum eS eP
      simp only [ey] at yc
      have pgY : (roomS wd t s (Q i)).pg y.toNat = newPg t := by rw [eS]; show upd _ y.toNat _ y.toNat = _; rw [upd_same]
      have pgO : ∀ x, x ≠ y.toNat → (roomS wd t s (Q i)).pg x = s.pg x := fun x h2 => by rw [eS]; show upd _ y.toNat _ x = _; rw [upd_other _ _ _ _ h2]
      have hsn : (roomS wd t s (Q i)).n = N := by rw [eS]; exact hN
      have lastN : lastZ (roomP wd t s (Q i)) = y := by
        rw [eP]
        unfold lastZ
        rw [List.length_append]
        exact getD_end
      refine ⟨hsn, by rw [eS]; exact h.aside, hG1, by rw [eS]; exact h.wf.upd (fun j => wf_nought _), ?_, fun z hz => ?_, fun x hx => ?_, fun x hx ho => ?_, by rw [lastN, eP]; simp, ?_, ?_, fun j hj hne => by rw [lastN]; exact yno j hj, fun j hj hne z hz => ?_, fun k hk c hc => ?_, ?_⟩
      · rw [eP]
        refine List.nodup_append.2 ⟨hnd, by simp, fun a ha b hb => ?_⟩
        simp at hb
        subst hb
        exact fun e => yno i hi (by rw [← e]; exact ha)
      · rw [eP] at hz
        rcases List.mem_append.1 hz with hz | hz
        · exact hinn z hz
        · simp at hz; subst hz; exact ⟨r2, by rw [← hN]; exact r3⟩
      · have hc : (roomP wd t s (Q i)).count (x : Int) = (Q i).P.count (x : Int) + (if y = (x : Int) then 1 else 0) := by rw [eP, List.count_append]; simp [List.count_cons]
        have how' := h.ow x hx
        rw [hc]
        by_cases e2 : x = y.toNat
        · subst e2
          rw [pgY, if_pos (by omega)]
          show (1 : Int) + _ = _
          omega
        · rw [pgO x e2, if_neg (by omega)]
          omega
      · by_cases e2 : x = y.toNat
        · rw [e2, pgY]; rfl
        · rw [pgO x e2] at ho ⊢
          exact h.tag x hx ho
      · rw [lastN]
        unfold pageZ
        rw [next_idx hq hf', eP]
        exact getD_end
      · rw [lastN]
        unfold usedB
        rw [hsn, pgY]
        simp only [decide_eq_true_eq]
        exact ⟨r2, by rw [← hN]; exact r3, by show (1 : Int) ≠ 0; decide⟩
      · obtain ⟨z0, z1⟩ := h.inn j hj z hz
        rw [pgO _ (yc z.toNat j hj (by rw [Int.toNat_of_nonneg z0]; exact hz))]
      · have hz := getD_mem hk
        obtain ⟨z0, z1⟩ := hinn _ hz
        rw [eP, getD_append hk, pgO _ (yc _ i hi (by rw [Int.toNat_of_nonneg z0]; exact hz))]
      · rw [if_pos hn, eS]
        exact freeTo_take s.pg y.toNat N _ (by omega) r4 (by show (1 : Int) ≠ 0; decide)
  · -- the row goes into the last page
    have hn' : needB wd s (Q i) = false := by simpa using hn
    have hf : fitB wd (Q i) = true := by
      cases e : fitB wd (Q i) with
      | true => rfl
      | false => exact absurd (need_of_fit e) hn
    have eS : roomS wd t s (Q i) = s := by unfold roomS; rw [if_neg (fun z => hn z.1)]
    have eP : roomP wd t s (Q i) = (Q i).P := by unfold roomP; rw [if_neg (fun z => hn z.1)]
    have hl := fit_len hq hf
    have hm := lastZ_mem hl
    obtain ⟨u1, u2⟩ := h.used hi hm
    have how : (s.pg (lastZ (Q i).P).toNat).ow ≤ 1 := by
      unfold needB at hn'
      rw [hf] at hn'
      simp only [Bool.true_and, Bool.not_eq_false', decide_eq_true_eq] at hn'
      unfold owZ at hn'
      rw [if_pos u1] at hn'
      exact hn'
    rw [eS, eP]
    refine ⟨hN, h.aside, h.good, h.wf, hnd, hinn, fun x hx => by rw [h.ow x hx], h.tag, hm, ?_, u1, fun j hj hne => h.alone hi hm how hj hne, fun j hj hne z hz => rfl, fun k hk c hc => rfl, by rw [if_neg hn, Nat.add_zero]⟩
    unfold pageZ
    rw [last_idx hq hf]
    rfl
end

/- Acts of one among several sequences: what holds of all of them goes on holding, and each row that is there stays. -/
section
open Go.ChangeShapes Go.WideShapes Go.ChangeAt Go.RowKit
set_option linter.unusedVariables false
set_option linter.unusedSimpArgs false

/-- each row that is there is what it should be -/
def RowsAt (wd : Nat) (s : Pl) (K : Nat) (Q : Nat → Sq) (R : Nat → Nat → List Int) : Prop :=
  ∀ i, i < K → ∀ k, (Q i).st ≤ k → k < (Q i).n → ∀ c, c < wd → (s.pg (pageZ wd (Q i).P (Q i).st k).toNat).cell (cellN wd (Q i).st k + c) = (R i k).getD c 0

theorem rows_apart {r wd a b c C : Nat} (hr : 0 < r) (hab : a ≠ b) (hq : a / r = b / r) (hc : c < wd) : ¬ (b % r * wd ≤ a % r * wd + c ∧ a % r * wd + c < b % r * wd + wd) := by
  have ha := Nat.div_add_mod a r
  have hb := Nat.div_add_mod b r
  rw [hq] at ha
  have hne : a % r ≠ b % r := fun e => hab (by omega)
  generalize a % r = x at hne
  generalize b % r = y at hne
  rintro ⟨h1, h2⟩
  rcases Nat.lt_or_gt_of_ne hne with h | h
  · have : (x + 1) * wd ≤ y * wd := Nat.mul_le_mul_right _ h
    rw [Nat.add_mul, Nat.one_mul] at this
    omega
  · have : (y + 1) * wd ≤ x * wd := Nat.mul_le_mul_right _ h
    rw [Nat.add_mul, Nat.one_mul] at this
    omega

theorem Many.app {N : Nat} {t : ByteArray} {wd : Nat} {s : Pl} {K : Nat} {Q : Nat → Sq} (h : Many N t wd s K Q) {i : Nat} (hi : i < K) (zs : List Int) (hw : ∀ z ∈ zs, (Lit.int .i64 z).wf = true) (hn : (Q i).n < 1000) (h0 : appE wd t s (Q i) zs = 0) :
    Many N t wd (appS wd t s (Q i) zs) K (upd Q i (appQ wd t s (Q i) zs)) ∧ freeTo (appS wd t s (Q i) zs).pg N + (if needB wd s (Q i) = true then 1 else 0) = freeTo s.pg N ∧
      ∀ R, RowsAt wd s K Q R → RowsAt wd (appS wd t s (Q i) zs) K (upd Q i (appQ wd t s (Q i) zs)) (fun j k => if j = i ∧ k = (Q i).n then zs else R j k) := by
  have hq := h.ok i hi
  obtain ⟨hlen, h1⟩ := appE_zero h0
  have hr := h.roomed hi h1
  have eQ : appQ wd t s (Q i) zs = ⟨roomP wd t s (Q i), (Q i).st, (Q i).n + 1⟩ := by unfold appQ; rw [if_pos h0]
  have eS : appS wd t s (Q i) zs = rowTo (roomS wd t s (Q i)) (lastZ (roomP wd t s (Q i))) (cellN wd (Q i).st (Q i).n) zs wd := by unfold appS; rw [if_pos h0, hr.zi]
  have hok : SqOk wd (appQ wd t s (Q i) zs) := hq.app hn
  have hG := hr.good.rowTo (lastZ (roomP wd t s (Q i))) (cellN wd (Q i).st (Q i).n) zs wd
  rw [← eS] at hG
  have hcl : cellN wd (Q i).st (Q i).n + wd ≤ 32 := by
    have := cell_lt hq.w0 hq.w1 (Q i).st (Q i).n (wd - 1) (by have := hq.w0; omega)
    have := hq.w0
    omega
  rw [row_all hr.used _ zs wd hcl] at eS
  have hrr := hq.rr
  obtain ⟨l1, l2⟩ := room_lt hq h1
  have hlt : ((Q i).n - (Q i).st) / (32 / wd) < (roomP wd t s (Q i)).length := by rw [Nat.div_lt_iff_lt_mul (by omega)]; exact l1
  have hLe : (Q i).P.length ≤ (roomP wd t s (Q i)).length := by rw [roomP_len hq]; split <;> omega
  obtain ⟨s1, es1⟩ : ∃ s1, roomS wd t s (Q i) = s1 := ⟨_, rfl⟩
  obtain ⟨P1, eP1⟩ : ∃ P1, roomP wd t s (Q i) = P1 := ⟨_, rfl⟩
  obtain ⟨s2, es2⟩ : ∃ s2, appS wd t s (Q i) zs = s2 := ⟨_, rfl⟩
  rw [es1, eP1] at hr eS
  rw [eP1] at eQ hlt hLe
  rw [es2] at eS hG ⊢
  obtain ⟨Z, eZ⟩ : ∃ Z, lastZ P1 = Z := ⟨_, rfl⟩
  rw [eZ] at hr eS
  obtain ⟨z0, z1⟩ := hr.inn Z hr.z1
  have pgZ : s2.pg Z.toNat = { s1.pg Z.toNat with cell := fun c => if cellN wd (Q i).st (Q i).n ≤ c ∧ c < cellN wd (Q i).st (Q i).n + wd then zs.getD (c - cellN wd (Q i).st (Q i).n) 0 else (s1.pg Z.toNat).cell c } := by rw [eS]; show upd _ Z.toNat _ Z.toNat = _; rw [upd_same]
  have pgO : ∀ x, x ≠ Z.toNat → s2.pg x = s1.pg x := fun x hx => by rw [eS]; show upd _ Z.toNat _ x = _; rw [upd_other _ _ _ _ hx]
  have how : ∀ x, (s2.pg x).ow = (s1.pg x).ow ∧ (s2.pg x).tag = (s1.pg x).tag := fun x => by
    by_cases e : x = Z.toNat
    · rw [e, pgZ]; exact ⟨rfl, rfl⟩
    · rw [pgO x e]; exact ⟨rfl, rfl⟩
  have hsn : s2.n = N := by rw [eS]; exact hr.n
  refine ⟨⟨hG, h.few, h.tne, hsn, by rw [eS]; exact hr.aside, ?_, fun j hj => ?_, fun j hj => ?_, fun j hj z hz => ?_, fun x hx => ?_, fun x hx ho => ?_⟩, ?_, fun R hR j hj k hk1 hk2 c hc => ?_⟩
  · intro a b
    by_cases e : a = Z.toNat
    · rw [e, pgZ]
      show (Lit.int .i64 (if _ then zs.getD _ 0 else _)).wf = true
      split
      · rename_i hb
        exact hw _ (getD_mem (by omega))
      · exact hr.wf _ _
    · rw [pgO a e]; exact hr.wf _ _
  · by_cases e : j = i
    · subst e; rw [upd_same]; exact hok
    · rw [upd_other _ _ _ _ e]; exact h.ok j hj
  · by_cases e : j = i
    · subst e; rw [upd_same, eQ]; exact hr.nd
    · rw [upd_other _ _ _ _ e]; exact h.nd j hj
  · by_cases e : j = i
    · subst e; rw [upd_same, eQ] at hz; exact hr.inn z hz
    · rw [upd_other _ _ _ _ e] at hz; exact h.inn j hj z hz
  · have h2 := hr.ow x hx
    have h3 := sumC_upd Q K i x (appQ wd t s (Q i) zs) hi
    have h4 : (appQ wd t s (Q i) zs).P = P1 := by rw [eQ]
    rw [h4] at h3
    rw [(how x).1]
    omega
  · rw [(how x).1] at ho
    rw [(how x).2]
    exact hr.tag x hx ho
  · rw [freeTo_congr s2.pg s1.pg N (fun x _ => (how x).1)]
    exact hr.free
  · by_cases e : j = i
    · subst e
      rw [upd_same, eQ] at hk1 hk2 ⊢
      simp only at hk1 hk2 ⊢
      by_cases ek : k = (Q j).n
      · subst ek
        rw [if_pos ⟨trivial, rfl⟩, hr.zi, pgZ]
        show (if _ then zs.getD _ 0 else _) = _
        rw [if_pos ⟨by omega, by omega⟩, Nat.add_sub_cancel_left]
      · rw [if_neg (fun z => ek z.2)]
        have hkn : k < (Q j).n := by omega
        have hidx := page_lt hq hk1 hkn
        have hcell := cell_lt hq.w0 hq.w1 (Q j).st k c hc
        have hI := hr.cellI _ hidx _ hcell
        have hold := hR j hj k hk1 hkn c hc
        have ep : pageZ wd P1 (Q j).st k = P1.getD ((k - (Q j).st) / (32 / wd)) 0 := rfl
        have ep' : pageZ wd (Q j).P (Q j).st k = (Q j).P.getD ((k - (Q j).st) / (32 / wd)) 0 := rfl
        rw [ep'] at hold
        rw [ep]
        by_cases ez : (P1.getD ((k - (Q j).st) / (32 / wd)) 0).toNat = Z.toNat
        · have hm := getD_mem (P := P1) (i := (k - (Q j).st) / (32 / wd)) (by omega)
          have hz := hr.inn _ hm
          have hzi := hr.zi
          have ei : (k - (Q j).st) / (32 / wd) = ((Q j).n - (Q j).st) / (32 / wd) := getD_inj hr.nd (by omega) hlt (by rw [show P1.getD (((Q j).n - (Q j).st) / (32 / wd)) 0 = Z from hzi]; omega)
          rw [← hold, ← hI, ez, pgZ]
          show (if _ then _ else _) = _
          rw [if_neg]
          exact rows_apart (C := 0) (by omega) (by omega) ei hc
        · rw [pgO _ ez, hI]
          exact hold
    · rw [upd_other _ _ _ _ e] at hk1 hk2 ⊢
      show _ = (if j = i ∧ k = (Q i).n then zs else R j k).getD c 0
      rw [if_neg (fun z => e z.1)]
      have hm := pageZ_mem (h.ok j hj) hk1 hk2
      obtain ⟨p0, p1⟩ := h.inn j hj _ hm
      have ez : (pageZ wd (Q j).P (Q j).st k).toNat ≠ Z.toNat := fun e' => hr.oth j hj e (by rw [show Z = pageZ wd (Q j).P (Q j).st k by omega]; exact hm)
      rw [pgO _ ez, hr.cellO j hj e _ hm]
      exact hR j hj k hk1 hk2 c hc
theorem Many.app_no {N : Nat} {t : ByteArray} {wd : Nat} {s : Pl} {K : Nat} {Q : Nat → Sq} (h : Many N t wd s K Q) {i : Nat} (zs : List Int) (h0 : appE wd t s (Q i) zs ≠ 0) : appS wd t s (Q i) zs = s ∧ upd Q i (appQ wd t s (Q i) zs) = Q := by
  unfold appS appQ
  rw [if_neg h0, if_neg h0]
  exact ⟨rfl, upd_self _ _⟩

theorem freeTo_iff (p q : Nat → Pg) (n : Nat) (h : ∀ x, x < n → ((p x).ow = 0 ↔ (q x).ow = 0)) : freeTo p n = freeTo q n := by
  induction n with
  | zero => rfl
  | succ n ih =>
    simp only [freeTo]
    rw [ih (fun x hx => h x (by omega))]
    by_cases e : (p n).ow = 0
    · rw [if_pos e, if_pos ((h n (by omega)).1 e)]
    · rw [if_neg e, if_neg (fun z => e ((h n (by omega)).2 z))]
theorem Many.fork {N : Nat} {t : ByteArray} {wd : Nat} {s : Pl} {K : Nat} {Q : Nat → Sq} (h : Many N t wd s K Q) {i : Nat} (hi : i < K) (hK : K < 6) : Many N t wd (forkS s (Q i)) (K + 1) (upd Q K (Q i)) ∧ freeTo (forkS s (Q i)).pg N = freeTo s.pg N ∧ ∀ R, RowsAt wd s K Q R → RowsAt wd (forkS s (Q i)) (K + 1) (upd Q K (Q i)) (upd R K (R i)) := by
  have hnd := h.nd i hi
  obtain ⟨a1, a2, a3, a4⟩ := steps_all shPg (Q i).P s hnd (h.mem hi)
  rw [← shS_step] at a1 a2 a3 a4
  have eS : forkS s (Q i) = (Q i).P.foldl shS s := rfl
  have hG := h.good.shares (Q i).P
  rw [← eS] at a1 a2 a3 a4 hG
  obtain ⟨s', es⟩ : ∃ s', forkS s (Q i) = s' := ⟨_, rfl⟩
  rw [es] at a1 a2 a3 a4 hG ⊢
  have hcell : ∀ x : Nat, (s'.pg x).cell = (s.pg x).cell ∧ (s'.pg x).tag = (s.pg x).tag ∧ (s'.pg x).ow = (s.pg x).ow + ((Q i).P.count (x : Int) : Int) := fun x => by
    by_cases e : (x : Int) ∈ (Q i).P
    · rw [a3 x e, count_same hnd e]; exact ⟨rfl, rfl, rfl⟩
    · rw [a4 x e, List.count_eq_zero_of_not_mem e]; exact ⟨rfl, rfl, by simp⟩
  have hnd' : ∀ j, j < K + 1 → (upd Q K (Q i) j).P.Nodup := fun j hj => by
    by_cases e : j = K
    · subst e; rw [upd_same]; exact hnd
    · rw [upd_other _ _ _ _ e]; exact h.nd j (by omega)
  have how : ∀ x, x < N → (s'.pg x).ow = (sumC (upd Q K (Q i)) (K + 1) x : Int) := fun x hx => by
    rw [(hcell x).2.2, h.ow x hx, sumC_snoc]
    omega
  have hsn : s'.n = N := a1.trans h.n
  refine ⟨⟨hG.bound (fun x hx => ?_), by omega, h.tne, hsn, a2.trans h.aside, fun a b => by rw [(hcell a).1]; exact h.wf a b, fun j hj => ?_, hnd', fun j hj z hz => ?_, how, fun x hx ho => ?_⟩, freeTo_iff _ _ _ (fun x hx => ?_), fun R hR j hj k hk1 hk2 c hc => ?_⟩
  · rw [how x (by omega)]
    have := sumC_le (upd Q K (Q i)) (K + 1) x hnd'
    omega
  · by_cases e : j = K
    · subst e; rw [upd_same]; exact h.ok i hi
    · rw [upd_other _ _ _ _ e]; exact h.ok j (by omega)
  · by_cases e : j = K
    · subst e; rw [upd_same] at hz; exact h.inn i hi z hz
    · rw [upd_other _ _ _ _ e] at hz; exact h.inn j (by omega) z hz
  · rw [(hcell x).2.1]
    by_cases e : (s.pg x).ow = 0
    · rw [(hcell x).2.2, e] at ho
      have h1 : 0 < (Q i).P.count (x : Int) := by omega
      have h2 := (h.used hi (List.count_pos_iff.1 h1)).2
      rw [Int.toNat_natCast] at h2
      omega
    · exact h.tag x hx e
  · rw [(hcell x).2.2]
    have h0 := h.good.ow0 x (by rw [h.n]; exact hx)
    constructor
    · intro e; omega
    · intro e
      by_cases hc : (x : Int) ∈ (Q i).P
      · have h2 := (h.used hi hc).2
        rw [Int.toNat_natCast] at h2
        omega
      · rw [List.count_eq_zero_of_not_mem hc]; omega
  · rw [(hcell _).1]
    by_cases e : j = K
    · subst e
      rw [upd_same] at hk1 hk2 ⊢
      rw [upd_same]
      exact hR i hi k hk1 hk2 c hc
    · rw [upd_other _ _ _ _ e] at hk1 hk2 ⊢
      rw [upd_other _ _ _ _ e]
      exact hR j (by omega) k hk1 hk2 c hc

/-- some of a sequence's pages are let go of -/
theorem Many.drops {N : Nat} {t : ByteArray} {wd : Nat} {s : Pl} {K : Nat} {Q : Nat → Sq} (h : Many N t wd s K Q) {i : Nat} (hi : i < K) (q : Sq) (T : List Int) (hsub : T.Sublist (Q i).P) (hqs : q.P.Sublist (Q i).P) (hc : ∀ x : Int, q.P.count x + T.count x = (Q i).P.count x) (hq : SqOk wd q)
    (hrow : ∀ k, q.st ≤ k → k < q.n → (Q i).st ≤ k ∧ k < (Q i).n ∧ pageZ wd q.P q.st k = pageZ wd (Q i).P (Q i).st k ∧ cellN wd q.st k = cellN wd (Q i).st k) :
    Many N t wd (T.foldl drS s) K (upd Q i q) ∧ ∀ R, RowsAt wd s K Q R → RowsAt wd (T.foldl drS s) K (upd Q i q) R := by
  have hnd : T.Nodup := (h.nd i hi).sublist hsub
  obtain ⟨a1, a2, a3, a4⟩ := steps_all dropPg T s hnd (fun z hz => h.mem hi z (hsub.mem hz))
  rw [← drS_step] at a1 a2 a3 a4
  have hG := h.good.drops T
  obtain ⟨s', es⟩ : ∃ s', T.foldl drS s = s' := ⟨_, rfl⟩
  rw [es] at a1 a2 a3 a4 hG ⊢
  have hcell : ∀ x : Nat, (s'.pg x).cell = (s.pg x).cell ∧ (s'.pg x).ow = (s.pg x).ow - (T.count (x : Int) : Int) ∧ ((s'.pg x).ow ≠ 0 → (s'.pg x).tag = (s.pg x).tag ∧ (s.pg x).ow ≠ 0) := fun x => by
    by_cases e : (x : Int) ∈ T
    · have h1 := (h.used hi (hsub.mem e)).2
      rw [Int.toNat_natCast] at h1
      rw [a3 x e, count_same hnd e]
      unfold dropPg
      split
      · rename_i e0
        exact ⟨rfl, by show (0 : Int) = _; omega, fun z => absurd rfl z⟩
      · exact ⟨rfl, by show (s.pg x).ow - 1 = _; omega, fun _ => ⟨rfl, by omega⟩⟩
    · rw [a4 x e, List.count_eq_zero_of_not_mem e]
      exact ⟨rfl, by simp, fun z => ⟨rfl, z⟩⟩
  refine ⟨⟨hG, h.few, h.tne, a1.trans h.n, a2.trans h.aside, fun a b => by rw [(hcell a).1]; exact h.wf a b, fun j hj => ?_, fun j hj => ?_, fun j hj z hz => ?_, fun x hx => ?_, fun x hx ho => ?_⟩, fun R hR j hj k hk1 hk2 c hcw => ?_⟩
  · by_cases e : j = i
    · subst e; rw [upd_same]; exact hq
    · rw [upd_other _ _ _ _ e]; exact h.ok j hj
  · by_cases e : j = i
    · subst e; rw [upd_same]; exact (h.nd j hj).sublist hqs
    · rw [upd_other _ _ _ _ e]; exact h.nd j hj
  · by_cases e : j = i
    · subst e; rw [upd_same] at hz; exact h.inn j hj z (hqs.mem hz)
    · rw [upd_other _ _ _ _ e] at hz; exact h.inn j hj z hz
  · have h1 := sumC_upd Q K i x q hi
    have h2 := hc (x : Int)
    have h3 := h.ow x hx
    rw [(hcell x).2.1]
    omega
  · obtain ⟨e1, e2⟩ := (hcell x).2.2 ho
    rw [e1]
    exact h.tag x hx e2
  · rw [(hcell _).1]
    by_cases e : j = i
    · subst e
      rw [upd_same] at hk1 hk2 ⊢
      obtain ⟨r1, r2, r3, r4⟩ := hrow k hk1 hk2
      rw [r3, r4]
      exact hR j hj k r1 r2 c hcw
    · rw [upd_other _ _ _ _ e] at hk1 hk2 ⊢
      exact hR j hj k hk1 hk2 c hcw

theorem Many.keep {N : Nat} {t : ByteArray} {wd : Nat} {s : Pl} {K : Nat} {Q : Nat → Sq} (h : Many N t wd s K Q) {i : Nat} (hi : i < K) (k : Int) : Many N t wd (keepS wd s (Q i) k) K (upd Q i (keepQ wd (Q i) k)) ∧ ∀ R, RowsAt wd s K Q R → RowsAt wd (keepS wd s (Q i) k) K (upd Q i (keepQ wd (Q i) k)) R := by
  have hq := h.ok i hi
  refine h.drops hi (keepQ wd (Q i) k) ((Q i).P.take (keepN wd (Q i) k)) (List.take_sublist _ _) (List.drop_sublist _ _) (fun x => ?_) (hq.keep k) (fun j h1 h2 => ?_)
  · show ((Q i).P.drop _).count x + _ = _
    rw [Nat.add_comm, ← List.count_append, List.take_append_drop]
  · have hr := hq.rr
    have h1' : (Q i).st + keepN wd (Q i) k * (32 / wd) ≤ j := h1
    have h2' : j < (Q i).n := h2
    obtain ⟨d, hd⟩ : ∃ d, j - ((Q i).st + keepN wd (Q i) k * (32 / wd)) = d := ⟨_, rfl⟩
    have e : j - (Q i).st = d + keepN wd (Q i) k * (32 / wd) := by omega
    refine ⟨by omega, h2', ?_, ?_⟩
    · show ((Q i).P.drop _).getD ((j - ((Q i).st + _)) / _) 0 = (Q i).P.getD ((j - (Q i).st) / _) 0
      rw [hd, e, Nat.add_mul_div_right _ _ (by omega)]
      simp [List.getD, Nat.add_comm]
    · show (j - ((Q i).st + _)) % _ * _ = (j - (Q i).st) % _ * _
      rw [hd, e, Nat.add_mul_mod_self_right]
theorem Many.end_ {N : Nat} {t : ByteArray} {wd : Nat} {s : Pl} {K : Nat} {Q : Nat → Sq} (h : Many N t wd s K Q) {i : Nat} (hi : i < K) : Many N t wd (endS s (Q i)) K (upd Q i (endQ (Q i))) ∧ ∀ R, RowsAt wd s K Q R → RowsAt wd (endS s (Q i)) K (upd Q i (endQ (Q i))) R :=
  h.drops hi (endQ (Q i)) (Q i).P (List.Sublist.refl _) (List.nil_sublist _) (fun x => by show (0 : Nat) + _ = _; omega) (h.ok i hi).end_ (fun k h1 h2 => by
    have h1' : (Q i).n ≤ k := h1
    have h2' : k < (Q i).n := h2
    omega)

/-- pages that are used are counted by their tag -/
theorem cnt_free (p : Nat → Pg) (t : ByteArray) (n : Nat) (h : ∀ x, x < n → 0 ≤ (p x).ow ∧ ((p x).ow ≠ 0 → (p x).tag.toList = t.toList)) : cntTo p t n + freeTo p n = n := by
  induction n with
  | zero => rfl
  | succ n ih =>
    have h1 := ih (fun x hx => h x (by omega))
    obtain ⟨h2, h3⟩ := h n (by omega)
    simp only [cntTo, freeTo]
    by_cases e : (p n).ow = 0
    · rw [if_pos e, if_neg (fun z => by omega)]; omega
    · rw [if_neg e, if_pos ⟨by omega, h3 e⟩]; omega
theorem Many.count {N : Nat} {t : ByteArray} {wd : Nat} {s : Pl} {K : Nat} {Q : Nat → Sq} (h : Many N t wd s K Q) : cntTo s.pg t N + freeTo s.pg N = N := cnt_free s.pg t N (fun x hx => ⟨h.good.ow0 x (by rw [h.n]; exact hx), h.tag x hx⟩)
theorem Many.empty {N : Nat} {t : ByteArray} {wd : Nat} {s : Pl} {K : Nat} {Q : Nat → Sq} (h : Many N t wd s K Q) (he : ∀ i, i < K → (Q i).P = []) : freeTo s.pg N = N ∧ cntTo s.pg t N = 0 := by
  have h1 : ∀ x, x < N → (s.pg x).ow = 0 := fun x hx => by rw [h.ow x hx, sumC_zero Q K x he]; rfl
  have h2 : ∀ n, n ≤ N → freeTo s.pg n = n := by
    intro n
    induction n with
    | zero => intro _; rfl
    | succ n ih => intro hn; simp only [freeTo]; rw [ih (by omega), if_pos (h1 n (by omega))]
  have h3 := h.count
  have h4 := h2 N (Nat.le_refl _)
  exact ⟨h4, by omega⟩
/-- a new pool with one sequence without rows -/
theorem many_new (N : Nat) (t : ByteArray) (wd : Nat) (n0 : 1 ≤ N) (n1 : N ≤ 256) (ht : ¬ t.toList = []) (w0 : 1 ≤ wd) (w1 : wd ≤ 32) : Many N t wd (newPl N) 1 (fun _ => ⟨[], 0, 0⟩) :=
  ⟨good_new N 6 n0 n1, by decide, ht, rfl, rfl, fun _ _ => wf_nought _, fun i hi => ⟨w0, w1, Nat.le_refl _, by decide, by simp, by show 0 * _ < 0 - 0 + _; rw [Nat.zero_mul]; have := rr_pos w0 w1; omega⟩, fun i hi => by simp, fun i hi z hz => by simp at hz, fun x hx => by simp [newPl, sumC], fun x hx ho => absurd rfl ho⟩
/-- what a row that is there reads as -/
theorem RowsAt.row {N : Nat} {t : ByteArray} {wd : Nat} {s : Pl} {K : Nat} {Q : Nat → Sq} (h : Many N t wd s K Q) {R : Nat → Nat → List Int} (hR : RowsAt wd s K Q R) {i : Nat} (hi : i < K) {k : Nat} (h1 : (Q i).st ≤ k) (h2 : k < (Q i).n) (hl : (R i k).length = wd) : rowE (Q i) k = 0 ∧ rowV wd s (Q i) k = R i k := by
  have hq := h.ok i hi
  have e : rowE (Q i) k = 0 := by unfold rowE; rw [if_neg (by omega)]
  refine ⟨e, ?_⟩
  unfold rowV
  rw [if_pos e, Int.toNat_natCast]
  have hu := h.mem hi _ (pageZ_mem hq h1 h2)
  apply List.ext_getElem
  · simp [hl]
  · intro c c1 c2
    have hc : c < wd := by simpa using c1
    have hcl := cell_lt hq.w0 hq.w1 (Q i).st k c hc
    simp only [List.getElem_map, List.getElem_range]
    unfold getV
    rw [if_pos (get_ok hu (by omega) (by omega)), show ((cellN wd (Q i).st k : Nat) : Int) + (c : Int) = ((cellN wd (Q i).st k + c : Nat) : Int) by omega, Int.toNat_natCast, hR i hi k h1 h2 c hc]
    simp [List.getD, c2]
/-- one sequence alone: its pages are those that are used -/
theorem Many.solo {N : Nat} {t : ByteArray} {wd : Nat} {s : Pl} {K : Nat} {Q : Nat → Sq} (h : Many N t wd s K Q) (hK : K = 1) : needB wd s (Q 0) = !(fitB wd (Q 0)) := by
  subst hK
  unfold needB
  cases e : fitB wd (Q 0) with
  | false => rfl
  | true =>
    have hl := fit_len (h.ok 0 (by decide)) e
    have hm := lastZ_mem hl
    obtain ⟨u1, u2⟩ := h.used (by decide) hm
    obtain ⟨z0, z1⟩ := h.inn 0 (by decide) _ hm
    have h1 := h.ow (lastZ (Q 0).P).toNat (by omega)
    have h2 := sumC_le Q 1 (lastZ (Q 0).P).toNat h.nd
    have e1 : decide (owZ s (lastZ (Q 0).P) ≤ 1) = true := by
      unfold owZ
      rw [if_pos u1, decide_eq_true_eq]
      omega
    rw [e1]
    rfl
end

end Go.Proofs.Ytgjjeggopeppfaa
