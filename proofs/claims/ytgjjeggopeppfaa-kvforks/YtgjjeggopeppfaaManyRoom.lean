/- Room for a row among several sequences: the page is the sequence's alone, what the others hold stays. -/
import Derived.Test.YtgjjeggopeppfaaRows
import Derived.Test.YtgjjeggopeppfaaPages
import Derived.Test.YtgjjeggopeppfaaView
import Derived.Test.YtgjjeggopeppfaaOwn
import Derived.Test.YtgjjeggopeppfaaLeast
import Derived.Test.YtgjjeggopeppfaaLays
import Derived.Test.YtgjjeggopeppfaaTurns
import Derived.Test.YtgjjeggopeppfaaGoods
import Derived.Test.YtgjjeggopeppfaaLies
import Derived.Test.YtgjjeggopeppfaaSeqs
import Derived.Test.YtgjjeggopeppfaaSeqAt
import Derived.Test.YtgjjeggopeppfaaSeqRd
import Derived.Test.YtgjjeggopeppfaaReadsP
import Derived.Test.YtgjjeggopeppfaaReadsQ
import Derived.Test.YtgjjeggopeppfaaRoom1
import Derived.Test.YtgjjeggopeppfaaRoom
import Derived.Test.YtgjjeggopeppfaaRows13
import Derived.Test.YtgjjeggopeppfaaManySq
import Derived.WalkKit
import Derived.ProofKit
import Derived.OpenShut
import Derived.Below
import Derived.WalkLawsBesides
import Derived.Deep.QuietTactic
import Derived.BigQuiet
namespace Go.Proofs.Ytgjjeggopeppfaa
open Go.ChangeShapes Go.WideShapes Go.ChangeAt Go.RowKit
set_option linter.unusedVariables false
set_option linter.unusedSimpArgs false

/-- behind makeRoom: the page Z into which the next row goes is this sequence's alone -/
structure Roomed (N : Nat) (t : ByteArray) (wd : Nat) (s s1 : Pl) (K : Nat) (Q : Nat → Sq) (i : Nat) (P1 : List Int) (Z : Int) : Prop where
  n : s1.n = N
  aside : s1.aside = 0
  good : Good 6 s1
  wf : Wf64 s1
  nd : P1.Nodup
  inn : ∀ z ∈ P1, 0 ≤ z ∧ z < (N : Int)
  ow : ∀ x, x < N → (s1.pg x).ow + ((Q i).P.count (x : Int) : Int) = (sumC Q K x : Int) + (P1.count (x : Int) : Int)
  tag : ∀ x, x < N → (s1.pg x).ow ≠ 0 → (s1.pg x).tag.toList = t.toList
  z1 : Z ∈ P1
  zi : pageZ wd P1 (Q i).st (Q i).n = Z
  used : usedB s1 Z = true
  oth : ∀ j, j < K → j ≠ i → Z ∉ (Q j).P
  cellO : ∀ j, j < K → j ≠ i → ∀ z ∈ (Q j).P, (s1.pg z.toNat).cell = (s.pg z.toNat).cell
  cellI : ∀ k, k < (Q i).P.length → ∀ c, c < 32 → (s1.pg (P1.getD k 0).toNat).cell c = (s.pg ((Q i).P.getD k 0).toNat).cell c
  free : freeTo s1.pg N + (if needB wd s (Q i) = true then 1 else 0) = freeTo s.pg N

theorem last_idx {wd : Nat} {q : Sq} (hq : SqOk wd q) (hf : fitB wd q = true) : (q.n - q.st) / (32 / wd) = q.P.length - 1 := by
  have h1 := (fit_iff hq).1 hf
  have h2 := hq.lo
  have h3 := fit_len hq hf
  have hr := hq.rr
  generalize 32 / wd = r at h1 h2 hr
  obtain ⟨L, hL⟩ : ∃ L, q.P.length = L + 1 := ⟨q.P.length - 1, by omega⟩
  rw [hL] at h1 h2 ⊢
  rw [Nat.add_mul, Nat.one_mul] at h1 h2
  rw [Nat.add_sub_cancel]
  exact Nat.div_eq_of_lt_le (by omega) (by rw [Nat.add_mul, Nat.one_mul]; omega)
theorem next_idx {wd : Nat} {q : Sq} (hq : SqOk wd q) (hf : fitB wd q = false) : (q.n - q.st) / (32 / wd) = q.P.length := by
  rw [fit_no hq hf]
  exact Nat.mul_div_cancel _ (by have := hq.rr; omega)
theorem lastZ_mem {P : List Int} (h : 0 < P.length) : lastZ P ∈ P := getD_mem (by omega)
theorem getD_set {P : List Int} {i j : Nat} {y : Int} (hi : i < P.length) : (P.set i y).getD j 0 = if j = i then y else P.getD j 0 := by
  simp only [List.getD, List.getElem?_set]
  by_cases e : i = j
  · subst e; simp [hi]
  · rw [if_neg e, if_neg (Ne.symm e)]
theorem set_mem {P : List Int} {i : Nat} {y z : Int} (hz : z ∈ P.set i y) : z = y ∨ z ∈ P := (List.mem_or_eq_of_mem_set hz).symm
theorem getD_append {P : List Int} {y : Int} {j : Nat} (hj : j < P.length) : (P ++ [y]).getD j 0 = P.getD j 0 := by simp [List.getD, List.getElem?_append_left hj]
theorem getD_end {P : List Int} {y : Int} : (P ++ [y]).getD P.length 0 = y := by simp [List.getD]
theorem set_split {P : List Int} (h : 0 < P.length) (y : Int) : ∃ A, P = A ++ [lastZ P] ∧ P.set (P.length - 1) y = A ++ [y] := by
  have hne : P ≠ [] := by intro e; rw [e] at h; simp at h
  refine ⟨P.dropLast, ?_, ?_⟩
  · have e : lastZ P = P.getLast hne := by
      unfold lastZ
      rw [List.getLast_eq_getElem]
      simp [List.getD, show P.length - 1 < P.length by omega]
    rw [e]
    exact (List.dropLast_concat_getLast hne).symm
  · conv => lhs; rw [← List.dropLast_concat_getLast hne]
    have e : (P.dropLast ++ [P.getLast hne]).length - 1 = P.dropLast.length := by simp
    rw [e, List.set_append_right _ _ (Nat.le_refl _)]
    simp

theorem Wf64.upd {s : Pl} (h : Wf64 s) {i : Nat} {q : Pg} (hq : ∀ j, (Lit.int .i64 (q.cell j)).wf = true) : Wf64 { s with pg := Ytgjjeggopeppfaa.upd s.pg i q } := fun a b => by
  show (Lit.int .i64 ((Ytgjjeggopeppfaa.upd s.pg i q a).cell b)).wf = true
  by_cases e : a = i
  · subst e; rw [upd_same]; exact hq b
  · rw [upd_other _ _ _ _ e]; exact h a b

theorem Many.roomed {N : Nat} {t : ByteArray} {wd : Nat} {s : Pl} {K : Nat} {Q : Nat → Sq} (h : Many N t wd s K Q) {i : Nat} (hi : i < K) (h0 : roomE wd t s (Q i) = 0) : Roomed N t wd s (roomS wd t s (Q i)) K Q i (roomP wd t s (Q i)) (lastZ (roomP wd t s (Q i))) := by
  have hq := h.ok i hi
  have hnd := h.nd i hi
  have hinn := h.inn i hi
  have hN := h.n
  by_cases hn : needB wd s (Q i) = true
  · have hE := roomE_zero h0 hn
    obtain ⟨r1, r2, r3, r4⟩ := takeR_one h.good hE
    have hT := take_one h.good hE
    have hG1 := h.good.roomS (wd := wd) (by decide) t (Q i)
    have yno : ∀ j, j < K → takenZ s t ∉ (Q j).P := fun j hj hz => by
      have := (h.used hj hz).2
      omega
    have yc : ∀ x : Nat, ∀ j, j < K → (x : Int) ∈ (Q j).P → x ≠ (takenZ s t).toNat := fun x j hj hx e => yno j hj (by rw [← Int.toNat_of_nonneg r2, ← e]; exact hx)
    have ysum : sumC Q K (takenZ s t).toNat = 0 := by have := h.ow (takenZ s t).toNat (by omega); omega
    by_cases hf : fitB wd (Q i) = true
    · -- the last page is copied
      have hl := fit_len hq hf
      have hm := lastZ_mem hl
      obtain ⟨u1, u2⟩ := h.used hi hm
      have how : 2 ≤ (s.pg (lastZ (Q i).P).toNat).ow := by
        unfold needB at hn
        rw [hf] at hn
        simp only [Bool.true_and, Bool.not_eq_true', decide_eq_false_iff_not] at hn
        unfold owZ at hn
        rw [if_pos u1] at hn
        omega
      have eS : roomS wd t s (Q i) = drS (copyTo (takeS s t 1) (lastZ (Q i).P) (takenZ s t) 32) (lastZ (Q i).P) := by unfold roomS; rw [if_pos ⟨hn, hE⟩, if_pos hf]
      have eP : roomP wd t s (Q i) = (Q i).P.set ((Q i).P.length - 1) (takenZ s t) := by unfold roomP; rw [if_pos ⟨hn, hE⟩, if_pos hf]
      obtain ⟨x0, x1, x2⟩ := used_of u1
      obtain ⟨A, eA, eB⟩ := set_split hl (takenZ s t)
      obtain ⟨X, eX⟩ : ∃ X, lastZ (Q i).P = X := ⟨_, rfl⟩
      rw [eX] at hm u1 u2 how eS x0 x1 x2 eA
      obtain ⟨y, ey⟩ : ∃ y, takenZ s t = y := ⟨_, rfl⟩
      rw [ey] at r1 r2 r3 r4 hT yno ysum eS eP eB
      simp only [ey] at yc
      have hXy : X ≠ y := fun e => yno i hi (by rw [← e]; exact hm)
      have hXy' : X.toNat ≠ y.toNat := by omega
      have t1 : usedB (takeS s t 1) X = true := by rw [hT]; exact used_upd u1 (by rw [upd_other _ _ _ _ hXy']; exact x2)
      have t2 : usedB (takeS s t 1) y = true := by
        rw [hT]
        unfold usedB
        simp only [upd_same, decide_eq_true_eq]
        exact ⟨r2, r3, by show (1 : Int) ≠ 0; decide⟩
      have hC := copy_all t1 t2 hXy 32 (Nat.le_refl _)
      rw [hT] at hC
      simp only [upd_same, upd_upd] at hC
      rw [upd_other _ _ _ _ hXy'] at hC
      have t3 : usedB (copyTo (takeS s t 1) X y 32) X = true := by rw [hT, hC]; exact used_upd u1 (by rw [upd_other _ _ _ _ hXy']; exact x2)
      have hD := drop_two t3 (by rw [hT, hC]; show 2 ≤ (upd s.pg y.toNat _ X.toNat).ow; rw [upd_other _ _ _ _ hXy']; exact how)
      rw [hT, hC] at hD
      simp only at hD
      rw [upd_other _ _ _ _ hXy'] at hD
      rw [hT, hC] at eS
      rw [hD] at eS
      have ndB : (A ++ [y]).Nodup := by
        rw [eA] at hnd
        refine List.nodup_append.2 ⟨(List.nodup_append.1 hnd).1, by simp, fun a ha b hb => ?_⟩
        simp at hb
        subst hb
        exact fun e => yno i hi (by rw [eA, ← e]; simp [ha])
      have pgX : (roomS wd t s (Q i)).pg X.toNat = { s.pg X.toNat with ow := (s.pg X.toNat).ow - 1 } := by rw [eS]; show upd _ X.toNat _ X.toNat = _; rw [upd_same]
      have pgY : (roomS wd t s (Q i)).pg y.toNat = ⟨t, 1, fun c => if c < 32 then (s.pg X.toNat).cell c else 0⟩ := by rw [eS]; show upd _ X.toNat _ y.toNat = _; rw [upd_other _ _ _ _ (Ne.symm hXy'), upd_same]; rfl
      have pgO : ∀ x, x ≠ X.toNat → x ≠ y.toNat → (roomS wd t s (Q i)).pg x = s.pg x := fun x h1 h2 => by rw [eS]; show upd _ X.toNat _ x = _; rw [upd_other _ _ _ _ h1, upd_other _ _ _ _ h2]
      have hsn : (roomS wd t s (Q i)).n = N := by rw [eS]; exact hN
      have lastN : lastZ (roomP wd t s (Q i)) = y := by
        rw [eP]
        unfold lastZ
        rw [List.length_set, getD_set (by omega), if_pos rfl]
      refine ⟨hsn, by rw [eS]; exact h.aside, hG1, ?_, by rw [eP, eB]; exact ndB, fun z hz => ?_, fun x hx => ?_, fun x hx ho => ?_, ?_, ?_, ?_, fun j hj hne => ?_, fun j hj hne z hz => ?_, fun k hk c hc => ?_, ?_⟩
      · intro a b
        by_cases e1 : a = X.toNat
        · rw [e1, pgX]; exact h.wf _ _
        · by_cases e2 : a = y.toNat
          · rw [e2, pgY]
            show (Lit.int .i64 (if b < 32 then (s.pg X.toNat).cell b else 0)).wf = true
            split
            · exact h.wf _ _
            · exact wf_nought _
          · rw [pgO a e1 e2]; exact h.wf _ _
      · rw [eP] at hz
        rcases set_mem hz with rfl | hz
        · exact ⟨r2, by rw [← hN]; exact r3⟩
        · exact hinn z hz
      · have hc : (roomP wd t s (Q i)).count (x : Int) = A.count (x : Int) + (if y = (x : Int) then 1 else 0) := by rw [eP, eB, List.count_append]; simp [List.count_cons]
        have hd : (Q i).P.count (x : Int) = A.count (x : Int) + (if X = (x : Int) then 1 else 0) := by rw [eA, List.count_append]; simp [List.count_cons]
        have how' := h.ow x hx
        rw [hc, hd]
        by_cases e1 : x = X.toNat
        · subst e1
          rw [pgX, if_pos (by omega), if_neg (by omega)]
          show (s.pg X.toNat).ow - 1 + _ = _
          omega
        · by_cases e2 : x = y.toNat
          · subst e2
            rw [pgY, if_neg (by omega), if_pos (by omega)]
            show (1 : Int) + _ = _
            omega
          · rw [pgO x e1 e2, if_neg (by omega), if_neg (by omega)]
            omega
      · by_cases e1 : x = X.toNat
        · rw [e1, pgX]; exact h.tag _ (by omega) x2
        · by_cases e2 : x = y.toNat
          · rw [e2, pgY]
          · rw [pgO x e1 e2] at ho ⊢
            exact h.tag x hx ho
      · rw [lastN, eP, eB]; simp
      · rw [lastN]
        unfold pageZ
        rw [last_idx hq hf, eP, getD_set (by omega), if_pos rfl]
      · rw [lastN]
        unfold usedB
        rw [hsn, pgY]
        simp only [decide_eq_true_eq]
        exact ⟨r2, by rw [← hN]; exact r3, by decide⟩
      · rw [lastN]; exact yno j hj
      · obtain ⟨z0, z1⟩ := h.inn j hj z hz
        have e2 : z.toNat ≠ y.toNat := yc z.toNat j hj (by rw [Int.toNat_of_nonneg z0]; exact hz)
        by_cases e1 : z.toNat = X.toNat
        · rw [e1, pgX]
        · rw [pgO _ e1 e2]
      · rw [eP, getD_set (by omega)]
        by_cases e : k = (Q i).P.length - 1
        · rw [if_pos e, pgY, e]
          show (if c < 32 then (s.pg X.toNat).cell c else 0) = _
          rw [if_pos hc, ← eX]
          rfl
        · rw [if_neg e]
          have hz := getD_mem hk
          obtain ⟨z0, z1⟩ := hinn _ hz
          have e2 : ((Q i).P.getD k 0).toNat ≠ y.toNat := yc _ i hi (by rw [Int.toNat_of_nonneg z0]; exact hz)
          have e1 : ((Q i).P.getD k 0).toNat ≠ X.toNat := fun e' => e (getD_inj hnd hk (by omega) (by have : lastZ (Q i).P = (Q i).P.getD ((Q i).P.length - 1) 0 := rfl; rw [eX] at this; omega))
          rw [pgO _ e1 e2]
      · rw [if_pos hn, eS]
        show freeTo (upd (upd s.pg y.toNat _) X.toNat _) N + 1 = _
        rw [freeTo_same _ _ _ _ (by rw [upd_other _ _ _ _ hXy']; exact x2) (by show (s.pg X.toNat).ow - 1 ≠ 0; omega)]
        exact freeTo_take s.pg y.toNat N _ (by omega) r4 (by show (1 : Int) ≠ 0; decide)
    · -- a page comes behind
      have hf' : fitB wd (Q i) = false := by simpa using hf
      have eS : roomS wd t s (Q i) = takeS s t 1 := by unfold roomS; rw [if_pos ⟨hn, hE⟩, if_neg hf]
      have eP : roomP wd t s (Q i) = (Q i).P ++ [takenZ s t] := by unfold roomP; rw [if_pos ⟨hn, hE⟩, if_neg hf]
      rw [hT] at eS
      obtain ⟨y, ey⟩ : ∃ y, takenZ s t = y := ⟨_, rfl⟩
      rw [ey] at r1 r2 r3 r4 yno ysum eS eP
      simp only [ey] at yc
      have pgY : (roomS wd t s (Q i)).pg y.toNat = newPg t := by rw [eS]; show upd _ y.toNat _ y.toNat = _; rw [upd_same]
      have pgO : ∀ x, x ≠ y.toNat → (roomS wd t s (Q i)).pg x = s.pg x := fun x h2 => by rw [eS]; show upd _ y.toNat _ x = _; rw [upd_other _ _ _ _ h2]
      have hsn : (roomS wd t s (Q i)).n = N := by rw [eS]; exact hN
      have lastN : lastZ (roomP wd t s (Q i)) = y := by
        rw [eP]
        unfold lastZ
        rw [List.length_append]
        exact getD_end
      refine ⟨hsn, by rw [eS]; exact h.aside, hG1, by rw [eS]; exact h.wf.upd (fun j => wf_nought _), ?_, fun z hz => ?_, fun x hx => ?_, fun x hx ho => ?_, by rw [lastN, eP]; simp, ?_, ?_, fun j hj hne => by rw [lastN]; exact yno j hj, fun j hj hne z hz => ?_, fun k hk c hc => ?_, ?_⟩
      · rw [eP]
        refine List.nodup_append.2 ⟨hnd, by simp, fun a ha b hb => ?_⟩
        simp at hb
        subst hb
        exact fun e => yno i hi (by rw [← e]; exact ha)
      · rw [eP] at hz
        rcases List.mem_append.1 hz with hz | hz
        · exact hinn z hz
        · simp at hz; subst hz; exact ⟨r2, by rw [← hN]; exact r3⟩
      · have hc : (roomP wd t s (Q i)).count (x : Int) = (Q i).P.count (x : Int) + (if y = (x : Int) then 1 else 0) := by rw [eP, List.count_append]; simp [List.count_cons]
        have how' := h.ow x hx
        rw [hc]
        by_cases e2 : x = y.toNat
        · subst e2
          rw [pgY, if_pos (by omega)]
          show (1 : Int) + _ = _
          omega
        · rw [pgO x e2, if_neg (by omega)]
          omega
      · by_cases e2 : x = y.toNat
        · rw [e2, pgY]; rfl
        · rw [pgO x e2] at ho ⊢
          exact h.tag x hx ho
      · rw [lastN]
        unfold pageZ
        rw [next_idx hq hf', eP]
        exact getD_end
      · rw [lastN]
        unfold usedB
        rw [hsn, pgY]
        simp only [decide_eq_true_eq]
        exact ⟨r2, by rw [← hN]; exact r3, by show (1 : Int) ≠ 0; decide⟩
      · obtain ⟨z0, z1⟩ := h.inn j hj z hz
        rw [pgO _ (yc z.toNat j hj (by rw [Int.toNat_of_nonneg z0]; exact hz))]
      · have hz := getD_mem hk
        obtain ⟨z0, z1⟩ := hinn _ hz
        rw [eP, getD_append hk, pgO _ (yc _ i hi (by rw [Int.toNat_of_nonneg z0]; exact hz))]
      · rw [if_pos hn, eS]
        exact freeTo_take s.pg y.toNat N _ (by omega) r4 (by show (1 : Int) ≠ 0; decide)
  · -- the row goes into the last page
    have hn' : needB wd s (Q i) = false := by simpa using hn
    have hf : fitB wd (Q i) = true := by
      cases e : fitB wd (Q i) with
      | true => rfl
      | false => exact absurd (need_of_fit e) hn
    have eS : roomS wd t s (Q i) = s := by unfold roomS; rw [if_neg (fun z => hn z.1)]
    have eP : roomP wd t s (Q i) = (Q i).P := by unfold roomP; rw [if_neg (fun z => hn z.1)]
    have hl := fit_len hq hf
    have hm := lastZ_mem hl
    obtain ⟨u1, u2⟩ := h.used hi hm
    have how : (s.pg (lastZ (Q i).P).toNat).ow ≤ 1 := by
      unfold needB at hn'
      rw [hf] at hn'
      simp only [Bool.true_and, Bool.not_eq_false', decide_eq_true_eq] at hn'
      unfold owZ at hn'
      rw [if_pos u1] at hn'
      exact hn'
    rw [eS, eP]
    refine ⟨hN, h.aside, h.good, h.wf, hnd, hinn, fun x hx => by rw [h.ow x hx], h.tag, hm, ?_, u1, fun j hj hne => h.alone hi hm how hj hne, fun j hj hne z hz => rfl, fun k hk c hc => rfl, by rw [if_neg hn, Nat.add_zero]⟩
    unfold pageZ
    rw [last_idx hq hf]
    rfl

end Go.Proofs.Ytgjjeggopeppfaa
