/- Pages that are taken, changed one behind the other, dropped; how many are free. -/
import Derived.Test.YtgjjeggopeppfaaRows
import Derived.Test.YtgjjeggopeppfaaPages
import Derived.Test.YtgjjeggopeppfaaBasis
import Derived.Test.YtgjjeggopeppfaaReadsB
import Derived.Test.YtgjjeggopeppfaaLeast
import Derived.Test.YtgjjeggopeppfaaLays
import Derived.Test.YtgjjeggopeppfaaTurns
import Derived.Test.YtgjjeggopeppfaaNews
import Derived.Test.YtgjjeggopeppfaaGoods
import Derived.WalkKit
import Derived.ProofKit
import Derived.OpenShut
import Derived.Below
import Derived.WalkLawsBesides
import Derived.Deep.QuietTactic
import Derived.BigQuiet
namespace Go.Proofs.Ytgjjeggopeppfaa
open Go.ChangeShapes Go.WideShapes Go.ChangeAt Go.RowKit
set_option linter.unusedVariables false

theorem tk_mem (p : Nat → Pg) (k i x : Nat) : (x : Int) ∈ tk p k i ↔ x < i ∧ (p x).ow = 0 ∧ (tk p k x).length < k := by
  induction i with
  | zero => simp [tk]
  | succ i ih =>
    by_cases c : (p i).ow = 0 ∧ (tk p k i).length < k
    · rw [tk_yes p k i c.1 c.2, List.mem_append, ih]
      constructor
      · rintro (h | h)
        · exact ⟨by omega, h.2⟩
        · simp only [List.mem_singleton, Int.natCast_inj] at h
          subst h
          exact ⟨by omega, c⟩
      · rintro ⟨h1, h2⟩
        by_cases e : x = i
        · exact .inr (by simp [e])
        · exact .inl ⟨by omega, h2⟩
    · rw [tk_no p k i c, ih]
      constructor
      · exact fun h => ⟨by omega, h.2⟩
      · rintro ⟨h1, h2⟩
        refine ⟨?_, h2⟩
        by_cases e : x = i
        · subst e
          exact absurd h2 c
        · omega
theorem tk_nodup (p : Nat → Pg) (k i : Nat) : (tk p k i).Nodup := by
  induction i with
  | zero => simp [tk]
  | succ i ih =>
    simp only [tk]
    split
    · refine List.nodup_append.2 ⟨ih, by simp, fun a ha b hb => ?_⟩
      have := tk_lt p k i a ha
      simp at hb
      omega
    · exact ih
theorem count_le_one {P : List Int} (h : P.Nodup) (z : Int) : P.count z ≤ 1 := by
  induction P with
  | nil => simp
  | cons x r ih =>
    obtain ⟨h1, h2⟩ := List.nodup_cons.1 h
    rw [List.count_cons]
    have := ih h2
    by_cases e : x = z
    · subst e
      rw [List.count_eq_zero_of_not_mem h1]
      simp
    · simp [e]
      exact this
theorem getD_mem {P : List Int} {i : Nat} (h : i < P.length) : P.getD i 0 ∈ P := by simp [List.getD, h]
theorem getD_inj {P : List Int} (h : P.Nodup) {i j : Nat} (hi : i < P.length) (hj : j < P.length) (e : P.getD i 0 = P.getD j 0) : i = j := by
  have e' : P[i] = P[j] := by simpa [List.getD, hi, hj] using e
  rcases Nat.lt_trichotomy i j with hlt | rfl | hlt
  · exact absurd e' (List.pairwise_iff_getElem.1 h i j hi hj hlt)
  · rfl
  · exact absurd e'.symm (List.pairwise_iff_getElem.1 h j i hj hi hlt)
/-- these pages have so many owners each -/
def Owned (s : Pl) (P : List Int) (o : Int) : Prop := P.Nodup ∧ ∀ z ∈ P, 0 ≤ z ∧ z < (s.n : Int) ∧ (s.pg z.toNat).ow = o
theorem Owned.used {s : Pl} {P : List Int} {o : Int} (h : Owned s P o) (ho : o ≠ 0) : ∀ z ∈ P, usedB s z = true := fun z hz => by
  obtain ⟨h0, h1, h2⟩ := h.2 z hz
  simp [usedB, h0, h1, h2, ho]
theorem Owned.ow {s : Pl} {P : List Int} {o : Int} (h : Owned s P o) (ho : o ≠ 0) : ∀ z ∈ P, owZ s z = o := fun z hz => by
  unfold owZ
  rw [if_pos (h.used ho z hz)]
  exact (h.2 z hz).2.2
theorem Owned.same {s s' : Pl} {P : List Int} {o : Int} (h : Owned s P o) (hn : s'.n = s.n) (hp : ∀ x : Nat, (x : Int) ∈ P → s'.pg x = s.pg x) : Owned s' P o := ⟨h.1, fun z hz => by
  obtain ⟨h0, h1, h2⟩ := h.2 z hz
  refine ⟨h0, by rw [hn]; exact h1, ?_⟩
  rw [hp z.toNat (by rw [Int.toNat_of_nonneg h0]; exact hz)]
  exact h2⟩
theorem freeTo_congr (p q : Nat → Pg) (n : Nat) (h : ∀ x, x < n → (p x).ow = (q x).ow) : freeTo p n = freeTo q n := by
  induction n with
  | zero => rfl
  | succ n ih =>
    simp only [freeTo]
    rw [ih (fun x hx => h x (by omega)), h n (by omega)]
/-- one page after the other is changed -/
def stepS (f : Pg → Pg) (s : Pl) (z : Int) : Pl := if usedB s z = true then { s with pg := upd s.pg z.toNat (f (s.pg z.toNat)) } else s
def shPg (q : Pg) : Pg := { q with ow := q.ow + 1 }
theorem shS_step : shS = stepS shPg := rfl
theorem drS_step : drS = stepS dropPg := rfl
theorem steps_all (f : Pg → Pg) (P : List Int) : ∀ s : Pl, P.Nodup → (∀ z ∈ P, usedB s z = true) → (P.foldl (stepS f) s).n = s.n ∧ (P.foldl (stepS f) s).aside = s.aside ∧ (∀ x : Nat, (x : Int) ∈ P → (P.foldl (stepS f) s).pg x = f (s.pg x)) ∧ (∀ x : Nat, (x : Int) ∉ P → (P.foldl (stepS f) s).pg x = s.pg x) := by
  induction P with
  | nil => intro s _ _; exact ⟨rfl, rfl, fun x hx => by simp at hx, fun _ _ => rfl⟩
  | cons z r ih =>
    intro s hnd hu
    obtain ⟨h1, h2⟩ := List.nodup_cons.1 hnd
    have hz := hu z (by simp)
    obtain ⟨z0, z1, z2⟩ := used_of hz
    have e : stepS f s z = { s with pg := upd s.pg z.toNat (f (s.pg z.toNat)) } := by unfold stepS; rw [if_pos hz]
    have hne : ∀ y ∈ r, y.toNat ≠ z.toNat := fun y hy c => by
      obtain ⟨y0, _, _⟩ := used_of (hu y (by simp [hy]))
      exact h1 (by rw [show z = y by omega]; exact hy)
    obtain ⟨a1, a2, a3, a4⟩ := ih (stepS f s z) h2 (fun y hy => by
      have hy' := hu y (by simp [hy])
      rw [e]
      unfold usedB at hy' ⊢
      show decide (0 ≤ y ∧ y < (s.n : Int) ∧ (upd s.pg z.toNat (f (s.pg z.toNat)) y.toNat).ow ≠ 0) = true
      rw [upd_other _ _ _ _ (hne y hy)]
      exact hy')
    rw [List.foldl_cons]
    refine ⟨by rw [a1, e], by rw [a2, e], fun x hx => ?_, fun x hx => ?_⟩
    · by_cases c : (x : Int) ∈ r
      · rw [a3 x c, e]
        show f (upd s.pg z.toNat _ x) = _
        rw [upd_other _ _ _ _ (by have := hne _ c; simpa using this)]
      · rcases List.mem_cons.1 hx with hx | hx
        · rw [a4 x c, e]
          show upd s.pg z.toNat _ x = _
          rw [show z.toNat = x by omega, upd_same]
        · exact absurd hx c
    · rw [a4 x (fun c => hx (by simp [c])), e]
      show upd s.pg z.toNat _ x = _
      rw [upd_other _ _ _ _ (fun c => hx (by simp; omega))]
theorem freeTo_upd (p : Nat → Pg) (i n : Nat) (q : Pg) (hi : i < n) (h : (p i).ow ≠ 0) (hq : q.ow = 0) : freeTo (upd p i q) n = freeTo p n + 1 := by
  induction n with
  | zero => omega
  | succ n ih =>
    simp only [freeTo]
    by_cases e : n = i
    · subst e
      rw [upd_same, if_pos hq, if_neg h, freeTo_congr (upd p n q) p n (fun x hx => by rw [upd_other _ _ _ _ (by omega)])]
    · rw [ih (by omega), upd_other _ _ _ _ e]
      omega
/-- dropped, pages with one owner are free -/
theorem drops_free (P : List Int) : ∀ s : Pl, Owned s P 1 → freeTo (P.foldl drS s).pg s.n = freeTo s.pg s.n + P.length := by
  induction P with
  | nil => intro s _; rfl
  | cons z r ih =>
    intro s h
    obtain ⟨h1, h2⟩ := List.nodup_cons.1 h.1
    obtain ⟨z0, z1, z2⟩ := h.2 z (by simp)
    have hz := h.used (by decide) z (by simp)
    have e : drS s z = { s with pg := upd s.pg z.toNat (dropPg (s.pg z.toNat)) } := by unfold drS; rw [if_pos hz]
    have e0 : (dropPg (s.pg z.toNat)).ow = 0 := by unfold dropPg; rw [z2]; rfl
    rw [List.foldl_cons]
    have hO0 : Owned s r 1 := ⟨h2, fun y hy => h.2 y (by simp [hy])⟩
    have hO : Owned (drS s z) r 1 := Owned.same hO0 (by rw [e]) (fun x hx => by
      rw [e]
      show upd s.pg z.toNat _ x = _
      rw [upd_other _ _ _ _ (fun c => h1 (by rw [show z = (x : Int) by omega]; exact hx))])
    have := ih (drS s z) hO
    have en : (drS s z).n = s.n := by rw [e]
    rw [en] at this
    rw [this, e]
    show freeTo (upd s.pg z.toNat _) s.n + r.length = _
    rw [freeTo_upd s.pg z.toNat s.n _ (by omega) (by rw [z2]; decide) e0, List.length_cons]
    omega

end Go.Proofs.Ytgjjeggopeppfaa
