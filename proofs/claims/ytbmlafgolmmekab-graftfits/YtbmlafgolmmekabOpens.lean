/- What Open gives back, the program's and the document's: contracts of the calls. -/
import Derived.Test.YtbmlafgolmmekabRows
import Derived.Test.YtbmlafgolmmekabView
import Derived.Test.YtbmlafgolmmekabOwn
import Derived.Test.YtbmlafgolmmekabTexts
import Derived.Test.YtbmlafgolmmekabSums
import Derived.Test.YtbmlafgolmmekabSeals
import Derived.WalkKit
import Derived.ProofKit
import Derived.OpenShut
import Derived.Below
import Derived.WalkLawsBesides
import Derived.Deep.QuietTactic
import Derived.BigQuiet
import Derived.Lib.QuietBelow
namespace Go.Proofs.Ytbmlafgolmmekab
open Go.ChangeShapes Go.WideShapes Go.ChangeAt Go.RowKit
open Go.Sort (grow)
set_option linter.unusedVariables false

theorem text_same {a b : ByteArray} (h : a = b) : (a.toList == b.toList) = true := by subst h; simp
theorem text_other {a b : ByteArray} (h : a ≠ b) : (a.toList == b.toList) = false := by
  rw [beq_eq_false_iff_ne]
  intro e
  rw [ByteArray.toList_eq, ByteArray.toList_eq] at e
  exact h (ByteArray.ext (Array.toList_inj.1 e))

/-- all but the last two bytes, and these -/
def front (s : ByteArray) : ByteArray := s.extract 0 (s.size - 2)
def back (s : ByteArray) : ByteArray := s.extract (s.size - 2) s.size
def openE (s : ByteArray) : Int := if s.size < 2 then 22 else if two (sumZ (front s)) = back s then 0 else 24
def openT (s : ByteArray) : ByteArray := if openE s = 0 then front s else ⟨#[]⟩

theorem front_back (s : ByteArray) : front s ++ back s = s := by
  unfold front back
  apply ByteArray.ext
  simp
theorem front_size (s : ByteArray) : (front s).size ≤ s.size := by
  unfold front
  rw [ByteArray.size_extract]
  omega
theorem append_inj_right {a b c : ByteArray} (h : a ++ b = a ++ c) : b = c := by
  have := congrArg ByteArray.data h
  rw [ByteArray.data_append, ByteArray.data_append] at this
  exact ByteArray.ext (Array.append_right_inj _ |>.1 this)

theorem open_short (s : ByteArray) (w : World) (h : s.size < 2) :
    Calls Try.prog 23 #[.string s] w fun e w' => e = .returned (.tuple #[.string ⟨#[]⟩, .int .i64 22]) ∧ w' = w := by
  obtain ⟨n, e⟩ : ∃ n, s.size = n := ⟨_, rfl⟩
  rw [e] at h
  have h' : (n : Int) - 2 < 0 := by omega
  go_enter Try.func23, Try.ntmps23
  go_wp2_with fail
  go_ret2
  exact ⟨rfl, rfl⟩

theorem open_wrong (s : ByteArray) (w : World) (hs : s.size ≤ 9223372036854775805) (h : ¬ s.size < 2) (hd : two (sumZ (front s)) ≠ back s) :
    Calls Try.prog 23 #[.string s] w fun e w' => e = .returned (.tuple #[.string ⟨#[]⟩, .int .i64 24]) ∧ Below w.heap.size w w' := by
  have hf := front_size s
  have c14 : ∀ d os, Calls Try.prog 32 #[.string (front s)] (grow (redrawn w d) os) fun e w'' => e = .returned (.int .i64 (sumZ (front s))) ∧ ∃ p : Regrown, w'' = grow (redrawn w p.d) p.os := fun d os =>
    Calls.regrown_of ((sum_call (front s) _ (by omega)).mono fun e w' ⟨he, hq⟩ => ⟨he, hq ▸ Below.refl _ _⟩)
  have c10 : ∀ d os, Calls Try.prog 18 #[.int .i64 (sumZ (front s))] (grow (redrawn w d) os) fun e w'' => e = .returned (.string (two (sumZ (front s)))) ∧ ∃ p : Regrown, w'' = grow (redrawn w p.d) p.os := fun d os =>
    Calls.regrown_of ((two_call _ _ (wf_sumZ _)).mono fun e w' ⟨he, hq⟩ => ⟨he, below_one hq⟩)
  have eq := text_other hd
  obtain ⟨n, e⟩ : ∃ n, s.size = n + 2 := ⟨s.size - 2, by omega⟩
  have ef : s.extract 0 n = front s := by unfold front; rw [e]; rfl
  have eb : s.extract n (n + 2) = back s := by unfold back; rw [e]; rfl
  obtain ⟨A, eA⟩ : ∃ A, front s = A := ⟨_, rfl⟩
  obtain ⟨B, eB⟩ : ∃ B, back s = B := ⟨_, rfl⟩
  obtain ⟨S, eS⟩ : ∃ S, sumZ A = S := ⟨_, rfl⟩
  obtain ⟨T, eT⟩ : ∃ T, two S = T := ⟨_, rfl⟩
  rw [eA, eS] at c14 c10
  rw [eA, eS, eB] at eq
  rw [eT] at eq c10
  rw [eA] at ef
  rw [eB] at eb
  rw [e] at hs
  have h0 : (n : Int) ≤ (n : Int) + 2 := by omega
  clear hf h hd eA eB eS eT
  go_enter Try.func23, Try.ntmps23
  go_wp2
  refine wp_region_quiet_below (by kernel_rfl) (by kernel_rfl) ?_
  repeat (go_big_quiet_step (first | (go_at_call 32; exact c14 _ _) | (go_at_call 18; exact c10 _ _)))
  refine wpQuiet_nil ?_
  intro _ hw'
  obtain ⟨⟨dq, osq⟩, hw''⟩ := hw'
  subst hw''
  go_wp2
  go_ret2
  exact ⟨rfl, below_regrown w dq osq⟩

theorem open_right (s : ByteArray) (w : World) (hs : s.size ≤ 9223372036854775805) (h : ¬ s.size < 2) (hd : two (sumZ (front s)) = back s) :
    Calls Try.prog 23 #[.string s] w fun e w' => e = .returned (.tuple #[.string (front s), .int .i64 0]) ∧ Below w.heap.size w w' := by
  have hf := front_size s
  have c14 : ∀ d os, Calls Try.prog 32 #[.string (front s)] (grow (redrawn w d) os) fun e w'' => e = .returned (.int .i64 (sumZ (front s))) ∧ ∃ p : Regrown, w'' = grow (redrawn w p.d) p.os := fun d os =>
    Calls.regrown_of ((sum_call (front s) _ (by omega)).mono fun e w' ⟨he, hq⟩ => ⟨he, hq ▸ Below.refl _ _⟩)
  have c10 : ∀ d os, Calls Try.prog 18 #[.int .i64 (sumZ (front s))] (grow (redrawn w d) os) fun e w'' => e = .returned (.string (two (sumZ (front s)))) ∧ ∃ p : Regrown, w'' = grow (redrawn w p.d) p.os := fun d os =>
    Calls.regrown_of ((two_call _ _ (wf_sumZ _)).mono fun e w' ⟨he, hq⟩ => ⟨he, below_one hq⟩)
  have eq := text_same hd
  obtain ⟨n, e⟩ : ∃ n, s.size = n + 2 := ⟨s.size - 2, by omega⟩
  have ef : s.extract 0 n = front s := by unfold front; rw [e]; rfl
  have eb : s.extract n (n + 2) = back s := by unfold back; rw [e]; rfl
  obtain ⟨A, eA⟩ : ∃ A, front s = A := ⟨_, rfl⟩
  obtain ⟨B, eB⟩ : ∃ B, back s = B := ⟨_, rfl⟩
  obtain ⟨S, eS⟩ : ∃ S, sumZ A = S := ⟨_, rfl⟩
  obtain ⟨T, eT⟩ : ∃ T, two S = T := ⟨_, rfl⟩
  rw [eA, eS] at c14 c10
  rw [eA, eS, eB] at eq
  rw [eT] at eq c10
  rw [eA] at ef ⊢
  rw [eB] at eb
  rw [e] at hs
  have h0 : (n : Int) ≤ (n : Int) + 2 := by omega
  clear hf h hd eA eB eS eT
  go_enter Try.func23, Try.ntmps23
  go_wp2
  refine wp_region_quiet_below (by kernel_rfl) (by kernel_rfl) ?_
  repeat (go_big_quiet_step (first | (go_at_call 32; exact c14 _ _) | (go_at_call 18; exact c10 _ _)))
  refine wpQuiet_nil ?_
  intro _ hw'
  obtain ⟨⟨dq, osq⟩, hw''⟩ := hw'
  subst hw''
  go_wp2
  go_ret2
  exact ⟨rfl, below_regrown w dq osq⟩

theorem open_call (s : ByteArray) (w : World) (hs : s.size ≤ 9223372036854775805) :
    Calls Try.prog 23 #[.string s] w fun e w' => e = .returned (.tuple #[.string (openT s), .int .i64 (openE s)]) ∧ Below w.heap.size w w' := by
  by_cases h : s.size < 2
  · have e : openE s = 22 := by unfold openE; rw [if_pos h]
    have t : openT s = ⟨#[]⟩ := by unfold openT; rw [e, if_neg (by decide)]
    rw [e, t]
    exact (open_short s w h).mono fun _ _ ⟨he, hw⟩ => ⟨he, hw ▸ Below.refl _ _⟩
  · by_cases hd : two (sumZ (front s)) = back s
    · have e : openE s = 0 := by unfold openE; rw [if_neg h, if_pos hd]
      have t : openT s = front s := by unfold openT; rw [e, if_pos rfl]
      rw [e, t]
      exact open_right s w hs h hd
    · have e : openE s = 24 := by unfold openE; rw [if_neg h, if_neg hd]
      have t : openT s = ⟨#[]⟩ := by unfold openT; rw [e, if_neg (by decide)]
      rw [e, t]
      exact open_wrong s w hs h hd

end Go.Proofs.Ytbmlafgolmmekab
