/- What holds of a pool holds behind every act. -/
import Derived.Test.YtfggkkhehaafcaaRows
import Derived.Test.YtfggkkhehaafcaaPages
import Derived.Test.YtfggkkhehaafcaaReadsP
import Derived.Test.YtfggkkhehaafcaaReadsQ
import Derived.Test.YtfggkkhehaafcaaLays
import Derived.WalkKit
import Derived.ProofKit
import Derived.OpenShut
import Derived.Below
import Derived.WalkLawsBesides
import Derived.Deep.QuietTactic
import Derived.BigQuiet
namespace Go.Proofs.Ytfggkkhehaafcaa
open Go.ChangeShapes Go.WideShapes Go.ChangeAt Go.RowKit
set_option linter.unusedVariables false

theorem tail_len (p : Nat → Pg) (t : ByteArray) (k i : Nat) (hk : k ≤ freeTo p i) : freeTo (takeP p t k i) i + k = freeTo p i := by
  have key : ∀ j, j ≤ i → freeTo (takeP p t k i) j + (tk p k j).length = freeTo p j := by
    intro j
    induction j with
    | zero => intro _; rfl
    | succ j ih =>
      intro hj
      have ih' := ih (by omega)
      simp only [freeTo]
      by_cases c : (p j).ow = 0 ∧ (tk p k j).length < k
      · have e : takeP p t k i j = newPg t := by simp only [takeP]; rw [if_pos ⟨by omega, c⟩]
        rw [e, tk_yes p k j c.1 c.2, if_pos c.1, if_neg (show ¬ (newPg t).ow = 0 from (by decide : ¬ (1 : Int) = 0)), List.length_append]
        simp only [List.length_cons, List.length_nil]
        omega
      · have e : takeP p t k i j = p j := by simp only [takeP]; rw [if_neg (fun x => c x.2)]
        rw [e, tk_no p k j c]
        omega
  have h := key i (Nat.le_refl _)
  rw [tk_len] at h
  omega

theorem takeP_ow (p : Nat → Pg) (t : ByteArray) (k i j : Nat) : takeP p t k i j = newPg t ∨ takeP p t k i j = p j := by
  unfold takeP
  split
  · exact .inl rfl
  · exact .inr rfl

theorem Good.mono {m m' : Nat} {s : Pl} (h : Good m s) (hm : m ≤ m') : Good m' s := ⟨h.n0, h.n1, h.a0, h.a1, h.ow0, fun i hi => by have := h.ow1 i hi; omega, h.tag⟩

theorem Good.take_ {m : Nat} {s : Pl} (h : Good m s) (hm : 1 ≤ m) (t : ByteArray) (ht : ¬ t.toList = []) (k : Nat) (A : Int) (a0 : 0 ≤ A) (a1 : A + k ≤ freeTo s.pg s.n) : Good m { s with pg := takeP s.pg t k s.n, aside := A } := by
  have e := tail_len s.pg t k s.n (by omega)
  refine ⟨h.n0, h.n1, a0, ?_, fun i hi => ?_, fun i hi => ?_, fun i hi => ?_⟩
  · show A ≤ (freeTo (takeP s.pg t k s.n) s.n : Int)
    omega
  · show 0 ≤ (takeP s.pg t k s.n i).ow
    rcases takeP_ow s.pg t k s.n i with e | e <;> rw [e]
    · exact (by decide : (0 : Int) ≤ 1)
    · exact h.ow0 i hi
  · show (takeP s.pg t k s.n i).ow ≤ m
    rcases takeP_ow s.pg t k s.n i with e | e <;> rw [e]
    · show (1 : Int) ≤ m
      omega
    · exact h.ow1 i hi
  · show (takeP s.pg t k s.n i).tag.toList = [] ↔ (takeP s.pg t k s.n i).ow = 0
    rcases takeP_ow s.pg t k s.n i with e | e <;> rw [e]
    · show t.toList = [] ↔ (1 : Int) = 0
      simp [ht]
    · exact h.tag i hi

theorem takeE_zero {s : Pl} {t : ByteArray} {k : Int} (h : takeE s t k = 0) : ¬ t.toList = [] ∧ 0 ≤ k ∧ k ≤ (freeTo s.pg s.n : Int) - s.aside := by
  unfold takeE at h
  split at h
  · omega
  · rename_i c
    split at h
    · omega
    · rename_i d
      exact ⟨fun x => c (.inl x), by omega, by omega⟩
theorem drawE_zero {s : Pl} {t : ByteArray} {k : Int} (h : drawE s t k = 0) : ¬ t.toList = [] ∧ 0 ≤ k ∧ k ≤ s.aside := by
  unfold drawE at h
  split at h
  · omega
  · rename_i c
    split at h
    · omega
    · rename_i d
      exact ⟨fun x => c (.inl x), by omega, by omega⟩

theorem Good.takeS {m : Nat} {s : Pl} (h : Good m s) (hm : 1 ≤ m) (t : ByteArray) (k : Int) : Good m (takeS s t k) := by
  unfold Ytfggkkhehaafcaa.takeS
  split
  · rename_i e
    obtain ⟨h0, h1, h2⟩ := takeE_zero e
    exact h.take_ hm t h0 k.toNat s.aside h.a0 (by omega)
  · exact h
theorem Good.drawS {m : Nat} {s : Pl} (h : Good m s) (hm : 1 ≤ m) (t : ByteArray) (k : Int) : Good m (drawS s t k) := by
  unfold Ytfggkkhehaafcaa.drawS
  split
  · rename_i e
    obtain ⟨h0, h1, h2⟩ := drawE_zero e
    have := h.a1
    exact h.take_ hm t h0 k.toNat (s.aside - k) (by omega) (by omega)
  · exact h
theorem Good.resS {m : Nat} {s : Pl} (h : Good m s) (k : Int) : Good m (resS s k) := by
  unfold Ytfggkkhehaafcaa.resS
  split
  · rename_i e
    have a0 := h.a0
    unfold resE at e
    split at e
    · omega
    · split at e
      · omega
      · exact ⟨h.n0, h.n1, by simp only; omega, by simp only; omega, h.ow0, h.ow1, h.tag⟩
  · exact h
theorem Good.unS {m : Nat} {s : Pl} (h : Good m s) (k : Int) : Good m (unS s k) := by
  unfold Ytfggkkhehaafcaa.unS
  split
  · rename_i e
    have a0 := h.a0
    have a1 := h.a1
    unfold unE at e
    split at e
    · omega
    · exact ⟨h.n0, h.n1, by simp only; omega, by simp only; omega, h.ow0, h.ow1, h.tag⟩
  · exact h

theorem freeTo_ge (p : Nat → Pg) (i j : Nat) (q : Pg) (hu : (p i).ow ≠ 0) : freeTo p j ≤ freeTo (upd p i q) j := by
  induction j with
  | zero => exact Nat.le_refl _
  | succ j ih =>
    simp only [freeTo]
    by_cases e : j = i
    · subst e
      rw [if_neg hu]
      omega
    · rw [upd_other _ _ _ _ e]
      omega

/-- one page with owners is another -/
theorem Good.page {m m' : Nat} {s : Pl} (h : Good m s) (hm : m ≤ m') (i : Nat) (q : Pg) (hu : (s.pg i).ow ≠ 0) (q0 : 0 ≤ q.ow) (q1 : q.ow ≤ m') (q2 : q.tag.toList = [] ↔ q.ow = 0) : Good m' { s with pg := upd s.pg i q } := by
  have fg := freeTo_ge s.pg i s.n q hu
  have a1 := h.a1
  refine ⟨h.n0, h.n1, h.a0, ?_, fun j hj => ?_, fun j hj => ?_, fun j hj => ?_⟩
  · show s.aside ≤ (freeTo (upd s.pg i q) s.n : Int)
    omega
  · show 0 ≤ (upd s.pg i q j).ow
    by_cases e : j = i
    · subst e; rw [upd_same]; exact q0
    · rw [upd_other _ _ _ _ e]; exact h.ow0 j hj
  · show (upd s.pg i q j).ow ≤ m'
    by_cases e : j = i
    · subst e; rw [upd_same]; exact q1
    · rw [upd_other _ _ _ _ e]; have := h.ow1 j hj; omega
  · show (upd s.pg i q j).tag.toList = [] ↔ (upd s.pg i q j).ow = 0
    by_cases e : j = i
    · subst e; rw [upd_same]; exact q2
    · rw [upd_other _ _ _ _ e]; exact h.tag j hj

theorem Good.shS {m : Nat} {s : Pl} (h : Good m s) (z : Int) : Good (m + 1) (shS s z) := by
  unfold Ytfggkkhehaafcaa.shS
  split
  · rename_i hu
    obtain ⟨z0, z1, z2⟩ := used_of hu
    have g0 := h.ow0 z.toNat (by omega)
    have g1 := h.ow1 z.toNat (by omega)
    have g2 := h.tag z.toNat (by omega)
    exact h.page (Nat.le_succ _) z.toNat _ z2 (by simp only; omega) (by simp only; omega) (by simp only [g2]; omega)
  · exact h.mono (Nat.le_succ _)
theorem Good.drS {m : Nat} {s : Pl} (h : Good m s) (z : Int) : Good m (drS s z) := by
  unfold Ytfggkkhehaafcaa.drS
  split
  · rename_i hu
    obtain ⟨z0, z1, z2⟩ := used_of hu
    have g0 := h.ow0 z.toNat (by omega)
    have g1 := h.ow1 z.toNat (by omega)
    have g2 := h.tag z.toNat (by omega)
    refine h.page (Nat.le_refl _) z.toNat _ z2 ?_ ?_ ?_ <;> unfold dropPg <;> split
    · exact Int.le_refl _
    · simp only; omega
    · simp only; omega
    · simp only; omega
    · simp [ByteArray.toList_eq]
    · simp only [g2]; omega
  · exact h
theorem Good.putS {m : Nat} {s : Pl} (h : Good m s) (z c v : Int) : Good m (putS s z c v) := by
  unfold Ytfggkkhehaafcaa.putS
  split
  · rename_i hu
    obtain ⟨z0, z1, z2⟩ := used_of (getE_zero hu).1
    exact h.page (Nat.le_refl _) z.toNat _ z2 (h.ow0 z.toNat (by omega)) (h.ow1 z.toNat (by omega)) (h.tag z.toNat (by omega))
  · exact h

end Go.Proofs.Ytfggkkhehaafcaa
