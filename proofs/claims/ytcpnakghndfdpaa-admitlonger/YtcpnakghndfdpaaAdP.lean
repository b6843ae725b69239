/- Pages that hold rows, and what becomes of a model's bytes. -/
import Derived.Test.YtcpnakghndfdpaaRows
import Derived.Test.YtcpnakghndfdpaaView
import Derived.Test.YtcpnakghndfdpaaHeld
import Derived.WalkKit
import Derived.ProofKit
import Derived.OpenShut
import Derived.Below
import Derived.WalkLawsBesides
import Derived.Deep.QuietTactic
import Derived.BigQuiet
import Derived.Lib.MinMax
namespace Go.Proofs.Ytcpnakghndfdpaa
set_option maxRecDepth 20000
open Go.ChangeShapes Go.WideShapes Go.ChangeAt Go.RowKit
set_option linter.unusedVariables false
set_option linter.unusedSimpArgs false

/-- how many pages hold so many rows of a width -/
def pagesZ (r d : Int) : Int := (r + (32 : Int).tdiv d - 1).tdiv ((32 : Int).tdiv d)
theorem per_bounds {d : Int} (h0 : 1 ≤ d) (h1 : d ≤ 32) : 1 ≤ (32 : Int).tdiv d ∧ (32 : Int).tdiv d ≤ 32 := by
  rw [Int.tdiv_eq_ediv_of_nonneg (by omega)]
  constructor
  · rw [Int.le_ediv_iff_mul_le (by omega)]; omega
  · exact Int.ediv_le_self d (by omega)
theorem pages_bounds {r d : Int} (h0 : 1 ≤ d) (h1 : d ≤ 32) (r0 : 0 ≤ r) (r1 : r ≤ 48) : 0 ≤ pagesZ r d ∧ pagesZ r d ≤ 79 := by
  have ⟨p0, p1⟩ := per_bounds h0 h1
  unfold pagesZ
  generalize (32 : Int).tdiv d = p at *
  rw [Int.tdiv_eq_ediv_of_nonneg (by omega)]
  exact ⟨Int.ediv_nonneg (by omega) (by omega), Int.le_trans (Int.ediv_le_self p (by omega)) (by omega)⟩
theorem pages_mono {r s d : Int} (h0 : 1 ≤ d) (h1 : d ≤ 32) (r0 : 0 ≤ r) (hs : r ≤ s) : pagesZ r d ≤ pagesZ s d := by
  have ⟨p0, p1⟩ := per_bounds h0 h1
  unfold pagesZ
  generalize (32 : Int).tdiv d = p at *
  rw [Int.tdiv_eq_ediv_of_nonneg (by omega), Int.tdiv_eq_ediv_of_nonneg (by omega)]
  exact Int.ediv_le_ediv (by omega) (by omega)

theorem pages_call (r d : Int) (h0 : 1 ≤ d) (h1 : d ≤ 32) (r0 : 0 ≤ r) (r1 : r ≤ 48) (w : World) : Calls Try.prog 20 #[.int .i64 r, .int .i64 d] w fun e w' => e = .returned (.int .i64 (pagesZ r d)) ∧ w' = w := by
  have ⟨p0, p1⟩ := per_bounds h0 h1
  have ⟨q0, q1⟩ := pages_bounds h0 h1 r0 r1
  unfold pagesZ at *
  go_enter Try.func20, Try.ntmps20
  go_wp2
  go_ret
  exact ⟨rfl, rfl⟩
theorem refPages_call (r d : Int) (h0 : 1 ≤ d) (h1 : d ≤ 32) (r0 : 0 ≤ r) (r1 : r ≤ 48) (w : World) : Calls Try.prog 25 #[.int .i64 r, .int .i64 d] w fun e w' => e = .returned (.int .i64 (pagesZ r d)) ∧ w' = w := by
  have ⟨p0, p1⟩ := per_bounds h0 h1
  have ⟨q0, q1⟩ := pages_bounds h0 h1 r0 r1
  unfold pagesZ at *
  go_enter Try.func25, Try.ntmps25
  go_wp2
  go_ret
  exact ⟨rfl, rfl⟩

/-- is what a need leaves of a room less than most -/
def leftB (need room most : Int) : Bool := decide (0 < most ∧ room - need < most)
theorem left_wrap {need room : Int} (n0 : -9223372036854775808 ≤ need) (n1 : need ≤ 9223372036854775807) (r0 : -9223372036854775808 ≤ room) (r1 : room ≤ 9223372036854775807) (h : need ≤ room) :
    IntKind.u64.wrap (IntKind.u64.wrap room - IntKind.u64.wrap need) = room - need := by
  have e : ∀ z : Int, IntKind.u64.wrap z = z % 18446744073709551616 := fun z => by rfl
  rw [e, e, e]
  omega
theorem wrap_u64_of {z : Int} (h0 : 0 ≤ z) (h1 : z ≤ 9223372036854775807) : IntKind.u64.wrap z = z := by
  have e : ∀ z : Int, IntKind.u64.wrap z = z % 18446744073709551616 := fun z => by rfl
  rw [e]
  omega

theorem left_call (need room most : Int) (n0 : -9223372036854775808 ≤ need) (n1 : need ≤ 9223372036854775807) (r0 : -9223372036854775808 ≤ room) (r1 : room ≤ 9223372036854775807) (h : need ≤ room) (m1 : most ≤ 9223372036854775807) (w : World) :
    Calls Try.prog 28 #[.int .i64 need, .int .i64 room, .int .i64 most] w fun e w' => e = .returned (.bool (leftB need room most)) ∧ w' = w := by
  have e1 := left_wrap n0 n1 r0 r1 h
  obtain ⟨d, ed⟩ : ∃ d, room - need = d := ⟨_, rfl⟩
  unfold leftB
  rw [ed] at e1 ⊢
  obtain ⟨u, eu⟩ : ∃ u, IntKind.u64.wrap room = u := ⟨_, rfl⟩
  obtain ⟨v, ev⟩ : ∃ v, IntKind.u64.wrap need = v := ⟨_, rfl⟩
  rw [eu, ev] at e1
  by_cases hm : 0 < most
  · have em := wrap_u64_of (z := most) (by omega) m1
    by_cases hd : d < most
    · rw [decide_eq_true ⟨hm, hd⟩]
      go_enter Try.func28, Try.ntmps28
      go_wp2
      go_ret
      exact ⟨rfl, rfl⟩
    · rw [decide_eq_false fun x => hd x.2]
      go_enter Try.func28, Try.ntmps28
      go_wp2
      go_ret
      exact ⟨rfl, rfl⟩
  · rw [decide_eq_false fun x => hm x.1]
    go_enter Try.func28, Try.ntmps28
    go_wp2
    go_ret
    exact ⟨rfl, rfl⟩

/-- what becomes of a model's bytes -/
def loadZ (right taken : Bool) (need room most : Int) : Int := if right = false then 1 else if taken = true then 3 else if room < need then 6 else if leftB need room most = true then 6 else 0

theorem load_call (right taken : Bool) (need room most : Int) (n0 : -9223372036854775808 ≤ need) (n1 : need ≤ 9223372036854775807) (r0 : -9223372036854775808 ≤ room) (r1 : room ≤ 9223372036854775807) (m1 : most ≤ 9223372036854775807) (w : World) :
    Calls Try.prog 14 #[.bool right, .bool taken, .int .i64 need, .int .i64 room, .int .i64 most] w fun e w' => e = .returned (.int .i64 (loadZ right taken need room most)) ∧ w' = w := by
  cases right
  · go_enter Try.func14, Try.ntmps14
    go_wp2
    go_ret
    exact ⟨rfl, rfl⟩
  cases taken
  case true =>
    go_enter Try.func14, Try.ntmps14
    go_wp2
    go_ret
    exact ⟨rfl, rfl⟩
  unfold loadZ
  by_cases hn : room < need
  · rw [if_neg (by decide), if_neg (by decide), if_pos hn]
    go_enter Try.func14, Try.ntmps14
    go_wp2
    go_ret
    exact ⟨rfl, rfl⟩
  · rw [if_neg (by decide), if_neg (by decide), if_neg hn]
    have k := left_call need room most n0 n1 r0 r1 (by omega) m1
    cases hl : leftB need room most <;> rw [hl] at k
    · rw [if_neg (by decide)]
      go_enter Try.func14, Try.ntmps14
      go_wp2_with (go_at_call 28; refine (k _).mono ?_; rintro e W1 ⟨rfl, rfl⟩)
      go_ret
      exact ⟨rfl, rfl⟩
    · rw [if_pos rfl]
      go_enter Try.func14, Try.ntmps14
      go_wp2_with (go_at_call 28; refine (k _).mono ?_; rintro e W1 ⟨rfl, rfl⟩)
      go_ret
      exact ⟨rfl, rfl⟩

theorem refLoad_call (right taken : Bool) (need room most : Int) (n0 : -9223372036854775808 ≤ need) (n1 : need ≤ 9223372036854775807) (r0 : -9223372036854775808 ≤ room) (r1 : room ≤ 9223372036854775807) (m1 : most ≤ 9223372036854775807) (w : World) :
    Calls Try.prog 15 #[.bool right, .bool taken, .int .i64 need, .int .i64 room, .int .i64 most] w fun e w' => e = .returned (.int .i64 (loadZ right taken need room most)) ∧ w' = w := by
  cases right
  · go_enter Try.func15, Try.ntmps15
    go_wp2
    go_ret
    exact ⟨rfl, rfl⟩
  cases taken
  case true =>
    go_enter Try.func15, Try.ntmps15
    go_wp2
    go_ret
    exact ⟨rfl, rfl⟩
  unfold loadZ
  by_cases hn : room < need
  · rw [if_neg (by decide), if_neg (by decide), if_pos hn]
    go_enter Try.func15, Try.ntmps15
    go_wp2
    go_ret
    exact ⟨rfl, rfl⟩
  · rw [if_neg (by decide), if_neg (by decide), if_neg hn]
    have e1 := left_wrap n0 n1 r0 r1 (by omega)
    have e2 : 0 ≤ room - need := by omega
    obtain ⟨d, ed⟩ : ∃ d, room - need = d := ⟨_, rfl⟩
    unfold leftB
    rw [ed] at e1 e2 ⊢
    clear ed
    obtain ⟨u, eu⟩ : ∃ u, IntKind.u64.wrap room = u := ⟨_, rfl⟩
    obtain ⟨v, ev⟩ : ∃ v, IntKind.u64.wrap need = v := ⟨_, rfl⟩
    rw [eu, ev] at e1
    by_cases hm : 0 < most
    · have em := wrap_u64_of (z := most) (by omega) m1
      have e3 : max 0 most = most := by omega
      by_cases hd : d < most
      · rw [if_pos (decide_eq_true ⟨hm, hd⟩)]
        go_enter Try.func15, Try.ntmps15
        go_wp2
        go_ret
        exact ⟨rfl, rfl⟩
      · rw [if_neg (by simp; omega)]
        go_enter Try.func15, Try.ntmps15
        go_wp2
        go_ret
        exact ⟨rfl, rfl⟩
    · have e3 : max 0 most = 0 := by omega
      have em := wrap_u64_of (z := 0) (by omega) (by omega)
      rw [if_neg (by simp; omega)]
      go_enter Try.func15, Try.ntmps15
      go_wp2
      go_ret
      exact ⟨rfl, rfl⟩

end Go.Proofs.Ytcpnakghndfdpaa
