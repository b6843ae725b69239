/- What lies in pages: placed it is there, shared and dropped it stays as long as it has owners; how many pages are free. -/
import Derived.Test.YtfggkkhehaafcaaRows
import Derived.Test.YtfggkkhehaafcaaPages
import Derived.Test.YtfggkkhehaafcaaView
import Derived.Test.YtfggkkhehaafcaaOwn
import Derived.Test.YtfggkkhehaafcaaReadsP
import Derived.Test.YtfggkkhehaafcaaReadsQ
import Derived.Test.YtfggkkhehaafcaaLeast
import Derived.Test.YtfggkkhehaafcaaLays
import Derived.Test.YtfggkkhehaafcaaTurns
import Derived.Test.YtfggkkhehaafcaaNews
import Derived.Test.YtfggkkhehaafcaaGoods
import Derived.Test.YtfggkkhehaafcaaPlain
import Derived.WalkKit
import Derived.ProofKit
import Derived.OpenShut
import Derived.Below
import Derived.WalkLawsBesides
import Derived.Deep.QuietTactic
import Derived.BigQuiet
namespace Go.Proofs.Ytfggkkhehaafcaa
open Go.ChangeShapes Go.WideShapes Go.ChangeAt Go.RowKit
set_option linter.unusedVariables false

theorem tk_mem (p : Nat → Pg) (k i x : Nat) : (x : Int) ∈ tk p k i ↔ x < i ∧ (p x).ow = 0 ∧ (tk p k x).length < k := by
  induction i with
  | zero => simp [tk]
  | succ i ih =>
    by_cases c : (p i).ow = 0 ∧ (tk p k i).length < k
    · rw [tk_yes p k i c.1 c.2, List.mem_append, ih]
      constructor
      · rintro (h | h)
        · exact ⟨by omega, h.2⟩
        · simp only [List.mem_singleton, Int.natCast_inj] at h
          subst h
          exact ⟨by omega, c⟩
      · rintro ⟨h1, h2⟩
        by_cases e : x = i
        · exact .inr (by simp [e])
        · exact .inl ⟨by omega, h2⟩
    · rw [tk_no p k i c, ih]
      constructor
      · exact fun h => ⟨by omega, h.2⟩
      · rintro ⟨h1, h2⟩
        refine ⟨?_, h2⟩
        by_cases e : x = i
        · subst e
          exact absurd h2 c
        · omega
theorem tk_nodup (p : Nat → Pg) (k i : Nat) : (tk p k i).Nodup := by
  induction i with
  | zero => simp [tk]
  | succ i ih =>
    simp only [tk]
    split
    · refine List.nodup_append.2 ⟨ih, by simp, fun a ha b hb => ?_⟩
      have := tk_lt p k i a ha
      simp at hb
      omega
    · exact ih

theorem count_le_one {P : List Int} (h : P.Nodup) (z : Int) : P.count z ≤ 1 := by
  induction P with
  | nil => simp
  | cons x r ih =>
    obtain ⟨h1, h2⟩ := List.nodup_cons.1 h
    rw [List.count_cons]
    have := ih h2
    by_cases e : x = z
    · subst e
      rw [List.count_eq_zero_of_not_mem h1]
      simp
    · simp [e]
      exact this
theorem getD_mem {P : List Int} {i : Nat} (h : i < P.length) : P.getD i 0 ∈ P := by simp [List.getD, h]
theorem getD_inj {P : List Int} (h : P.Nodup) {i j : Nat} (hi : i < P.length) (hj : j < P.length) (e : P.getD i 0 = P.getD j 0) : i = j := by
  have e' : P[i] = P[j] := by simpa [List.getD, hi, hj] using e
  rcases Nat.lt_trichotomy i j with hlt | rfl | hlt
  · exact absurd e' (List.pairwise_iff_getElem.1 h i j hi hj hlt)
  · rfl
  · exact absurd e'.symm (List.pairwise_iff_getElem.1 h j i hj hi hlt)

/-- these pages have so many owners each -/
def Owned (s : Pl) (P : List Int) (o : Int) : Prop := P.Nodup ∧ ∀ z ∈ P, 0 ≤ z ∧ z < (s.n : Int) ∧ (s.pg z.toNat).ow = o
theorem Owned.used {s : Pl} {P : List Int} {o : Int} (h : Owned s P o) (ho : o ≠ 0) : ∀ z ∈ P, usedB s z = true := fun z hz => by
  obtain ⟨h0, h1, h2⟩ := h.2 z hz
  simp [usedB, h0, h1, h2, ho]
theorem Owned.ow {s : Pl} {P : List Int} {o : Int} (h : Owned s P o) (ho : o ≠ 0) : ∀ z ∈ P, owZ s z = o := fun z hz => by
  unfold owZ
  rw [if_pos (h.used ho z hz)]
  exact (h.2 z hz).2.2
theorem Owned.same {s s' : Pl} {P : List Int} {o : Int} (h : Owned s P o) (hn : s'.n = s.n) (hp : ∀ x : Nat, (x : Int) ∈ P → s'.pg x = s.pg x) : Owned s' P o := ⟨h.1, fun z hz => by
  obtain ⟨h0, h1, h2⟩ := h.2 z hz
  refine ⟨h0, by rw [hn]; exact h1, ?_⟩
  rw [hp z.toNat (by rw [Int.toNat_of_nonneg h0]; exact hz)]
  exact h2⟩

/-- .. and hold these weights -/
structure Lies (s : Pl) (P : List Int) (W : List Int) (o : Int) : Prop where
  own : Owned s P o
  len : P.length = (W.length + 31) / 32
  val : ∀ i, i < W.length → (s.pg (P.getD (i / 32) 0).toNat).cell (i % 32) = W.getD i 0
theorem Lies.same {s s' : Pl} {P W : List Int} {o : Int} (h : Lies s P W o) (hn : s'.n = s.n) (hp : ∀ x : Nat, (x : Int) ∈ P → s'.pg x = s.pg x) : Lies s' P W o :=
  ⟨h.own.same hn hp, h.len, fun i hi => by
    have hl := h.len
    have hm := getD_mem (P := P) (i := i / 32) (by omega)
    rw [hp _ (by rw [Int.toNat_of_nonneg (h.own.2 _ hm).1]; exact hm)]
    exact h.val i hi⟩

theorem putTo_all {s : Pl} {P W : List Int} {o : Int} (h : Owned s P o) (ho : o ≠ 0) (hl : P.length = (W.length + 31) / 32) (i : Nat) (hi : i ≤ W.length) :
    (putTo s W (spots P i)).2.n = s.n ∧ (putTo s W (spots P i)).2.aside = s.aside ∧ (∀ x, ((putTo s W (spots P i)).2.pg x).ow = (s.pg x).ow ∧ ((putTo s W (spots P i)).2.pg x).tag = (s.pg x).tag) ∧ (∀ x : Nat, (x : Int) ∉ P → (putTo s W (spots P i)).2.pg x = s.pg x) ∧
      ∀ j, j < i → ((putTo s W (spots P i)).2.pg (P.getD (j / 32) 0).toNat).cell (j % 32) = W.getD j 0 := by
  induction i with
  | zero => exact ⟨rfl, rfl, fun _ => ⟨rfl, rfl⟩, fun _ _ => rfl, fun j hj => by omega⟩
  | succ i ih =>
    obtain ⟨a1, a2, a3, a4, a5⟩ := ih (by omega)
    rw [spots_succ, putTo_snoc, spots_len]
    obtain ⟨q, eq⟩ : ∃ q, (putTo s W (spots P i)).2 = q := ⟨_, rfl⟩
    rw [eq] at a1 a2 a3 a4 a5 ⊢
    have hm := getD_mem (P := P) (i := i / 32) (by omega)
    obtain ⟨z0, z1, z2⟩ := h.2 _ hm
    have hu : usedB q (P.getD (i / 32) 0) = true := by
      unfold usedB
      rw [a1, (a3 _).1, z2]
      simp only [z0, z1, ho, ne_eq, not_false_eq_true, and_self, decide_true]
    have hE : getE q (P.getD (i / 32) 0) ((i % 32 : Nat) : Int) = 0 := by
      unfold getE
      rw [if_pos hu, if_pos ⟨by omega, by omega⟩]
    have e : putS q (spot P i).1 (spot P i).2 (W.getD i 0) = { q with pg := upd q.pg (P.getD (i / 32) 0).toNat { q.pg (P.getD (i / 32) 0).toNat with cell := upd (q.pg (P.getD (i / 32) 0).toNat).cell (i % 32) (W.getD i 0) } } := by
      unfold putS spot
      rw [if_pos hE, Int.toNat_natCast]
    rw [e]
    refine ⟨a1, a2, fun x => ?_, fun x hx => ?_, fun j hj => ?_⟩
    · by_cases c : x = (P.getD (i / 32) 0).toNat
      · subst c
        show ((upd q.pg _ _ _).ow = _ ∧ (upd q.pg _ _ _).tag = _)
        rw [upd_same]
        exact a3 _
      · show ((upd q.pg _ _ _).ow = _ ∧ (upd q.pg _ _ _).tag = _)
        rw [upd_other _ _ _ _ c]
        exact a3 _
    · have c : x ≠ (P.getD (i / 32) 0).toNat := fun c => hx (by rw [c, Int.toNat_of_nonneg z0]; exact hm)
      show upd q.pg _ _ _ = _
      rw [upd_other _ _ _ _ c]
      exact a4 x hx
    · show (upd q.pg _ _ _).cell _ = _
      by_cases c : (P.getD (j / 32) 0).toNat = (P.getD (i / 32) 0).toNat
      · rw [c, upd_same]
        have hmj := getD_mem (P := P) (i := j / 32) (by omega)
        have zj := (h.2 _ hmj).1
        have hij : j / 32 = i / 32 := getD_inj h.1 (by omega) (by omega) (by omega)
        show upd (q.pg _).cell (i % 32) (W.getD i 0) (j % 32) = _
        by_cases d : j = i
        · subst d
          rw [upd_same]
        · rw [upd_other _ _ _ _ (by omega), ← c]
          exact a5 j (by omega)
      · rw [upd_other _ _ _ _ c]
        by_cases d : j = i
        · subst d
          exact absurd rfl c
        · exact a5 j (by omega)

theorem freeTo_congr (p q : Nat → Pg) (n : Nat) (h : ∀ x, x < n → (p x).ow = (q x).ow) : freeTo p n = freeTo q n := by
  induction n with
  | zero => rfl
  | succ n ih =>
    simp only [freeTo]
    rw [ih (fun x hx => h x (by omega)), h n (by omega)]

/-- what was placed lies there; other pages are as they were; so many fewer are free -/
theorem placed {m : Nat} {s : Pl} (hG : Good m s) (t : ByteArray) (W : List Int) (h0 : placeE s t W = 0) :
    Lies (placeS s t W) (placeR s t W) W 1 ∧ (placeS s t W).n = s.n ∧ (placeS s t W).aside = s.aside ∧ (∀ x : Nat, (x : Int) ∉ placeR s t W → (placeS s t W).pg x = s.pg x) ∧ (∀ z ∈ placeR s t W, 0 ≤ z ∧ z < (s.n : Int) ∧ (s.pg z.toNat).ow = 0) ∧
      freeTo (placeS s t W).pg s.n + (placeR s t W).length = freeTo s.pg s.n := by
  have hlen := placeR_len hG.a0 h0
  have h0' : takeE s t (needZ W.length) = 0 := h0
  obtain ⟨t0, t1, t2⟩ := takeE_zero h0'
  have eR : placeR s t W = tk s.pg (needZ W.length).toNat s.n := by unfold placeR takeR; rw [if_pos h0']
  have eT : takeS s t (needZ W.length) = { s with pg := takeP s.pg t (needZ W.length).toNat s.n } := by unfold takeS; rw [if_pos h0']
  have eS : placeS s t W = (putTo (takeS s t (needZ W.length)) W (spots (placeR s t W) W.length)).2 := by unfold placeS; rw [if_pos h0]
  obtain ⟨K, eK⟩ : ∃ K, (needZ W.length).toNat = K := ⟨_, rfl⟩
  rw [eK] at eR eT
  have hmem : ∀ z ∈ placeR s t W, 0 ≤ z ∧ z < (s.n : Int) ∧ (s.pg z.toNat).ow = 0 ∧ takeP s.pg t K s.n z.toNat = newPg t := fun z hz => by
    rw [eR] at hz
    obtain ⟨z0, z1⟩ := tk_lt s.pg K s.n z hz
    obtain ⟨x, rfl⟩ : ∃ x : Nat, z = (x : Int) := ⟨z.toNat, by omega⟩
    obtain ⟨q1, q2, q3⟩ := (tk_mem s.pg K s.n x).1 hz
    refine ⟨z0, z1, q2, ?_⟩
    simp only [Int.toNat_natCast, takeP]
    rw [if_pos ⟨q1, q2, q3⟩]
  have hoth : ∀ x : Nat, (x : Int) ∉ placeR s t W → takeP s.pg t K s.n x = s.pg x := fun x hx => by
    rw [eR, tk_mem] at hx
    simp only [takeP]
    rw [if_neg hx]
  have hO : Owned (takeS s t (needZ W.length)) (placeR s t W) 1 := by
    refine ⟨by rw [eR]; exact tk_nodup _ _ _, fun z hz => ?_⟩
    obtain ⟨q0, q1, q2, q3⟩ := hmem z hz
    rw [eT]
    exact ⟨q0, q1, by show (takeP s.pg t K s.n z.toNat).ow = 1; rw [q3]; rfl⟩
  obtain ⟨a1, a2, a3, a4, a5⟩ := putTo_all hO (by decide) hlen W.length (Nat.le_refl _)
  rw [← eS] at a1 a2 a3 a4 a5
  refine ⟨⟨⟨hO.1, fun z hz => ?_⟩, hlen, a5⟩, by rw [a1, eT], by rw [a2, eT], fun x hx => ?_, fun z hz => ?_, ?_⟩
  · rw [a1, (a3 _).1]
    exact hO.2 z hz
  · rw [a4 x hx, eT]
    exact hoth x hx
  · obtain ⟨q0, q1, q2, q3⟩ := hmem z hz
    exact ⟨q0, q1, q2⟩
  · have ha := hG.a0
    have e1 := tail_len s.pg t K s.n (by omega)
    have e2 : freeTo (placeS s t W).pg s.n = freeTo (takeP s.pg t K s.n) s.n := freeTo_congr _ _ _ fun x hx => by rw [(a3 x).1, eT]
    rw [e2, eR, tk_len]
    omega

/-- one page after the other is changed -/
def stepS (f : Pg → Pg) (s : Pl) (z : Int) : Pl := if usedB s z = true then { s with pg := upd s.pg z.toNat (f (s.pg z.toNat)) } else s
def shPg (q : Pg) : Pg := { q with ow := q.ow + 1 }
theorem shS_step : shS = stepS shPg := rfl
theorem drS_step : drS = stepS dropPg := rfl
theorem steps_all (f : Pg → Pg) (P : List Int) : ∀ s : Pl, P.Nodup → (∀ z ∈ P, usedB s z = true) → (P.foldl (stepS f) s).n = s.n ∧ (P.foldl (stepS f) s).aside = s.aside ∧ (∀ x : Nat, (x : Int) ∈ P → (P.foldl (stepS f) s).pg x = f (s.pg x)) ∧ (∀ x : Nat, (x : Int) ∉ P → (P.foldl (stepS f) s).pg x = s.pg x) := by
  induction P with
  | nil => intro s _ _; exact ⟨rfl, rfl, fun x hx => by simp at hx, fun _ _ => rfl⟩
  | cons z r ih =>
    intro s hnd hu
    obtain ⟨h1, h2⟩ := List.nodup_cons.1 hnd
    have hz := hu z (by simp)
    obtain ⟨z0, z1, z2⟩ := used_of hz
    have e : stepS f s z = { s with pg := upd s.pg z.toNat (f (s.pg z.toNat)) } := by unfold stepS; rw [if_pos hz]
    have hne : ∀ y ∈ r, y.toNat ≠ z.toNat := fun y hy c => by
      obtain ⟨y0, _, _⟩ := used_of (hu y (by simp [hy]))
      exact h1 (by rw [show z = y by omega]; exact hy)
    obtain ⟨a1, a2, a3, a4⟩ := ih (stepS f s z) h2 (fun y hy => by
      have hy' := hu y (by simp [hy])
      rw [e]
      unfold usedB at hy' ⊢
      show decide (0 ≤ y ∧ y < (s.n : Int) ∧ (upd s.pg z.toNat (f (s.pg z.toNat)) y.toNat).ow ≠ 0) = true
      rw [upd_other _ _ _ _ (hne y hy)]
      exact hy')
    rw [List.foldl_cons]
    refine ⟨by rw [a1, e], by rw [a2, e], fun x hx => ?_, fun x hx => ?_⟩
    · by_cases c : (x : Int) ∈ r
      · rw [a3 x c, e]
        show f (upd s.pg z.toNat _ x) = _
        rw [upd_other _ _ _ _ (by have := hne _ c; simpa using this)]
      · rcases List.mem_cons.1 hx with hx | hx
        · rw [a4 x c, e]
          show upd s.pg z.toNat _ x = _
          rw [show z.toNat = x by omega, upd_same]
        · exact absurd hx c
    · rw [a4 x (fun c => hx (by simp [c])), e]
      show upd s.pg z.toNat _ x = _
      rw [upd_other _ _ _ _ (fun c => hx (by simp; omega))]

theorem freeTo_upd (p : Nat → Pg) (i n : Nat) (q : Pg) (hi : i < n) (h : (p i).ow ≠ 0) (hq : q.ow = 0) : freeTo (upd p i q) n = freeTo p n + 1 := by
  induction n with
  | zero => omega
  | succ n ih =>
    simp only [freeTo]
    by_cases e : n = i
    · subst e
      rw [upd_same, if_pos hq, if_neg h, freeTo_congr (upd p n q) p n (fun x hx => by rw [upd_other _ _ _ _ (by omega)])]
    · rw [ih (by omega), upd_other _ _ _ _ e]
      omega

/-- dropped, pages with one owner are free -/
theorem drops_free (P : List Int) : ∀ s : Pl, Owned s P 1 → freeTo (P.foldl drS s).pg s.n = freeTo s.pg s.n + P.length := by
  induction P with
  | nil => intro s _; rfl
  | cons z r ih =>
    intro s h
    obtain ⟨h1, h2⟩ := List.nodup_cons.1 h.1
    obtain ⟨z0, z1, z2⟩ := h.2 z (by simp)
    have hz := h.used (by decide) z (by simp)
    have e : drS s z = { s with pg := upd s.pg z.toNat (dropPg (s.pg z.toNat)) } := by unfold drS; rw [if_pos hz]
    have e0 : (dropPg (s.pg z.toNat)).ow = 0 := by unfold dropPg; rw [z2]; rfl
    rw [List.foldl_cons]
    have hO0 : Owned s r 1 := ⟨h2, fun y hy => h.2 y (by simp [hy])⟩
    have hO : Owned (drS s z) r 1 := Owned.same hO0 (by rw [e]) (fun x hx => by
      rw [e]
      show upd s.pg z.toNat _ x = _
      rw [upd_other _ _ _ _ (fun c => h1 (by rw [show z = (x : Int) by omega]; exact hx))])
    have := ih (drS s z) hO
    have en : (drS s z).n = s.n := by rw [e]
    rw [en] at this
    rw [this, e]
    show freeTo (upd s.pg z.toNat _) s.n + r.length = _
    rw [freeTo_upd s.pg z.toNat s.n _ (by omega) (by rw [z2]; decide) e0, List.length_cons]
    omega

/-- what lies is fetched -/
theorem fetE_all {s : Pl} {l : List (Int × Int)} (h : ∀ x ∈ l, stepE s x = 0) : fetE s l = 0 := by
  induction l with
  | nil => rfl
  | cons x r ih =>
    simp only [fetE]
    rw [if_neg (by rw [h x (by simp)]; decide)]
    exact ih fun y hy => h y (by simp [hy])
theorem Lies.fetch {s : Pl} {P W : List Int} {o : Int} (h : Lies s P W o) (ho : o ≠ 0) (hw : ∀ z ∈ W, (Lit.int .i8 z).wf = true) : fetchE s P W.length = 0 ∧ fetchR s P W.length = W := by
  have hl := h.len
  have key : ∀ i, i < W.length → getE s (spot P i).1 (spot P i).2 = 0 ∧ getV s (spot P i).1 (spot P i).2 = W.getD i 0 := fun i hi => by
    have hm := getD_mem (P := P) (i := i / 32) (by omega)
    have hE : getE s (P.getD (i / 32) 0) ((i % 32 : Nat) : Int) = 0 := by
      unfold getE
      rw [if_pos (h.own.used ho _ hm), if_pos ⟨by omega, by omega⟩]
    refine ⟨hE, ?_⟩
    unfold getV spot
    rw [if_pos hE, Int.toNat_natCast]
    exact h.val i hi
  have hst : ∀ x ∈ spots P W.length, stepE s x = 0 := fun x hx => by
    obtain ⟨i, hi, rfl⟩ := List.mem_map.1 hx
    have hi' := List.mem_range.1 hi
    obtain ⟨e1, e2⟩ := key i hi'
    have hr : -128 ≤ W.getD i 0 ∧ W.getD i 0 ≤ 127 := by
      have := hw (W.getD i 0) (getD_mem hi')
      simpa [Lit.wf, IntKind.min, IntKind.max, IntKind.signed, IntKind.bits] using this
    unfold stepE
    rw [e1, e2, if_neg (by decide), if_neg (by omega)]
  have e : fetchE s P W.length = 0 := by
    unfold fetchE
    rw [if_neg (by rw [needZ_nat]; omega), Int.toNat_natCast]
    exact fetE_all hst
  refine ⟨e, ?_⟩
  unfold fetchR
  rw [if_pos e, Int.toNat_natCast]
  apply List.ext_getElem
  · rw [fetV_len, spots_len]
  · intro i h1 h2
    have := (key i h2).2
    simp only [fetV, spots, List.getElem_map, List.getElem_range]
    rw [this]
    simp [List.getD, h2]
theorem spots_front (P : List Int) (N : Nat) (h : 0 < N) : ∃ r, spots P N = spot P 0 :: r := by
  cases N with
  | zero => omega
  | succ n => exact ⟨(List.range n).map (fun i => spot P (i + 1)), by simp [spots, List.range_succ_eq_map]⟩
theorem fetch_gone {s : Pl} {P : List Int} {N : Nat} (hl : P.length = (N + 31) / 32) (hN : 0 < N) (hu : usedB s (P.getD 0 0) = false) : fetchE s P N = 25 := by
  unfold fetchE
  rw [if_neg (by rw [needZ_nat]; omega), Int.toNat_natCast]
  obtain ⟨r, e⟩ := spots_front P N hN
  rw [e]
  have hE : getE s (spot P 0).1 (spot P 0).2 = 25 := by
    unfold getE spot
    rw [if_neg (by simp only [Nat.zero_div]; rw [hu]; decide)]
  have hs : stepE s (spot P 0) = 25 := by unfold stepE; rw [hE, if_pos (by decide)]
  simp only [fetE]
  rw [hs]
  rfl

theorem Owned.rel {s : Pl} {P : List Int} {o : Int} (h : Owned s P o) (ho : 1 ≤ o) : relB s P = true := by
  rw [relB_iff]
  intro z hz
  rw [h.ow (by omega) z hz]
  have := count_le_one h.1 z
  omega
theorem rel_gone {s : Pl} {P : List Int} (h : P ≠ []) (hu : ∀ z ∈ P, usedB s z = false) : relB s P = false := by
  cases e : relB s P with
  | false => rfl
  | true =>
    exfalso
    cases P with
    | nil => exact h rfl
    | cons z r =>
      have := (relB_iff s _).1 e z (by simp)
      unfold owZ at this
      rw [hu z (by simp), if_neg (by decide), List.count_cons_self] at this
      omega

end Go.Proofs.Ytfggkkhehaafcaa
