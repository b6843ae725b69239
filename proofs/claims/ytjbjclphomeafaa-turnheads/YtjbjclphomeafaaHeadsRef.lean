/- What the document's Heads gives back, and what both give back, whatever row, heads and place: contracts of the calls. -/
import Derived.Test.YtjbjclphomeafaaRows
import Derived.Test.YtjbjclphomeafaaSat
import Derived.Test.YtjbjclphomeafaaView
import Derived.Test.YtjbjclphomeafaaOwn
import Derived.Test.YtjbjclphomeafaaSteps
import Derived.Test.YtjbjclphomeafaaWhere
import Derived.Test.YtjbjclphomeafaaTabs
import Derived.Test.YtjbjclphomeafaaPair
import Derived.Test.YtjbjclphomeafaaTurn
import Derived.Test.YtjbjclphomeafaaTurns
import Derived.Test.YtjbjclphomeafaaTurnRef
import Derived.Test.YtjbjclphomeafaaHeads
import Derived.WalkKit
import Derived.ProofKit
import Derived.OpenShut
import Derived.Below
import Derived.WalkLawsBesides
namespace Go.Proofs.Ytjbjclphomeafaa
open Go.ChangeShapes Go.WideShapes Go.ChangeAt Go.RowKit
set_option linter.unusedVariables false

theorem refTurn_fine (a0 : Option Addr) (n c0 : Nat) (xs : List Int) (p : Int) (w : World) (h0 : Reads .i64 w a0 n xs) (hn : n % 2 = 0) (hp : 0 ≤ p ∧ p ≤ 1000) (hb : n * 8 ≤ 140737488355328) :
    Calls Try.prog 9 #[.slice a0 n c0, .int .i64 p] w fun e w' => (∃ a c, e = .returned (.tuple #[.slice a n c, .int .i64 0]) ∧ Reads .i64 w' a n (turnZ xs p n) ∧ (a = none → c = 0)) ∧ Below w.heap.size w w' := by
  obtain ⟨k, rfl⟩ : ∃ k, n = 2 * k := ⟨n / 2, by omega⟩
  exact refTurn_ok _ _ _ _ _ _ h0 hp hb

theorem refHeads_low (a0 : Option Addr) (n c0 : Nat) (hd p : Int) (w : World) (h : hd < 1) :
    Calls Try.prog 12 #[.slice a0 n c0, .int .i64 hd, .int .i64 p] w fun e w' => e = .returned (.tuple #[.slice none 0 0, .int .i64 20]) ∧ w' = w := by
  go_enter Try.func12, Try.ntmps12
  go_wp2_with fail
  go_ret2
  exact ⟨rfl, rfl⟩

theorem refHeads_odd (a0 : Option Addr) (n c0 H : Nat) (p : Int) (w : World) (hm : n ≤ 9223372036854775807) (hH : 0 < H) (h : ¬(n % H = 0 ∧ n / H % 2 = 0)) :
    Calls Try.prog 12 #[.slice a0 n c0, .int .i64 H, .int .i64 p] w fun e w' => e = .returned (.tuple #[.slice none 0 0, .int .i64 21]) ∧ w' = w := by
  have z : ((H : Int) == 0) = false := by simp; omega
  obtain ⟨r, er⟩ : ∃ r, n % H = r := ⟨_, rfl⟩
  obtain ⟨d, ed⟩ : ∃ d, n / H = d := ⟨_, rfl⟩
  have er' : (n : Int) % (H : Int) = (r : Int) := by rw [← er]; simp
  have ed' : (n : Int) / (H : Int) = (d : Int) := by rw [← ed]; simp
  have hdn : d ≤ n := by rw [← ed]; exact Nat.div_le_self _ _
  rw [er, ed] at h
  clear er ed
  by_cases r0 : r = 0
  · subst r0
    have d2 : ((d : Int) % 2 == 0) = false := by simp; omega
    clear h
    go_enter Try.func12, Try.ntmps12
    go_wp2_with fail
    go_ret2
    exact ⟨rfl, rfl⟩
  · have r0' : ((r : Int) == 0) = false := by simp; omega
    clear h
    go_enter Try.func12, Try.ntmps12
    go_wp2_with fail
    go_ret2
    exact ⟨rfl, rfl⟩

set_option maxHeartbeats 1000000 in
theorem refHeads_none_far (a0 : Option Addr) (c0 H : Nat) (p : Int) (w : World) (e0 : a0 = none → c0 = 0) (hH : 0 < H) (h' : p < 0 ∨ 1000 < p) :
    Calls Try.prog 12 #[.slice a0 0 c0, .int .i64 H, .int .i64 p] w fun e w' => e = .returned (.tuple #[.slice none 0 0, .int .i64 20]) ∧ Below w.heap.size w w' := by
  have z : ((H : Int) == 0) = false := by simp; omega
  have kt := fun (W : World) a c => refTurn_far a 0 c p W (by omega) h'
  cases a0 with
  | none =>
    obtain rfl := e0 rfl
    go_enter Try.func12, Try.ntmps12
    go_wp2
    go_loopw [9, 10] (fun v i wr => i = .int .i64 0 ∧ wr = w) (fun _ i _ => 0)
    case atStart => exact ⟨rfl, rfl⟩
    case round =>
      obtain ⟨rfl, hw⟩ := hrel
      subst hw
      go_wp2_with (go_at_call 9; refine (kt _ _ _).mono ?_; rintro e w' ⟨rfl, h⟩; obtain rfl := h.symm)
      go_ret2
      exact ⟨rfl, Below.refl _ _⟩
  | some x =>
    go_enter Try.func12, Try.ntmps12
    go_wp2
    go_loopw [9, 10] (fun v i wr => i = .int .i64 0 ∧ wr = w) (fun _ i _ => 0)
    case atStart => exact ⟨rfl, rfl⟩
    case round =>
      obtain ⟨rfl, hw⟩ := hrel
      subst hw
      go_wp2_with (go_at_call 9; refine (kt _ _ _).mono ?_; rintro e w' ⟨rfl, h⟩; obtain rfl := h.symm)
      all_goals go_ret2
      all_goals exact ⟨rfl, Below.refl _ _⟩

set_option maxHeartbeats 1000000 in
theorem refHeads_none_ok (a0 : Option Addr) (c0 H : Nat) (p : Int) (w : World) (e0 : a0 = none → c0 = 0) (hH : 0 < H) (hp : 0 ≤ p ∧ p ≤ 1000) :
    Calls Try.prog 12 #[.slice a0 0 c0, .int .i64 H, .int .i64 p] w fun e w' => (∃ a c, e = .returned (.tuple #[.slice a 0 c, .int .i64 0]) ∧ Reads .i64 w' a 0 []) ∧ Below w.heap.size w w' := by
  obtain ⟨i0, hi, hz0, hz1, hz2⟩ := info_parts info2
  have z : ((H : Int) == 0) = false := by simp; omega
  have kt := fun (W : World) a c => refTurn_fine a 0 c [] p W (Reads.none_ _ _ _) rfl hp (by omega)
  have e1 : turnZ [] p 0 = [] := rfl
  rw [e1] at kt
  clear e1
  cases a0 with
  | none =>
    obtain rfl := e0 rfl
    go_enter Try.func12, Try.ntmps12
    go_wp2
    go_loopw [9, 10] (fun v i wr => ∃ k : Nat, k ≤ 1 ∧ i = .int .i64 k ∧ Below w.heap.size w wr ∧ wr.ownsRow w.heap.size 2 1 v 0 []) (fun _ i _ => 1 - (intOf i).toNat)
    case atStart => exact ⟨0, by omega, rfl, Below.refl _ _, World.ownsRow_nil _ _ _ _⟩
    case round =>
      obtain ⟨k, hk, rfl, hbr, ho⟩ := hrel
      by_cases hlt : k = 0
      · subst hlt
        go_wp2_with (first
          | (go_at_call 9; refine (kt _ _ _).mono ?_; rintro e W2 ⟨⟨p2, q2, rfl, r2, n2⟩, hb2⟩; replace ho := own_below ho hb2; replace hbr := below_then hbr hb2; clear hb2; have hsz := hbr.size)
          | (at_builtin; refine wpList_copy rfl (.tmp 60) (.tmp 61) 22 rfl w.heap.size 2 i0 (.int .i64 0) 8 Try.underlying22 hi hz0 hz1 hz2 rfl _ 0 _ rfl ho .i64 p2 0 q2 _ rfl r2 n2 (by unfold maxLen; omega) (by omega) hsz ?_; intro v1 W3 ho3 hg3; have R := And.intro (below_append hbr ho hg3) ho3; clear ho3 hg3 ho))
        go_roundw
        case rel => exact ⟨1, by omega, rfl, R⟩
        case measure => simp [intOf]
      · obtain rfl : k = 1 := by omega
        obtain ⟨a, c, rfl, hr⟩ := own_reads (k := .i64) (zs := []) ho rfl (fun z hz => by cases hz) (fun j hj => by omega)
        by_cases h1 : H = 1
        · subst h1
          go_wp2
          go_ret2
          exact ⟨⟨_, _, rfl, hr⟩, hbr⟩
        · have h2 : 1 < H := by omega
          go_wp2
          go_ret2
          exact ⟨⟨_, _, rfl, hr⟩, hbr⟩
  | some x =>
    go_enter Try.func12, Try.ntmps12
    go_wp2
    go_loopw [9, 10] (fun v i wr => ∃ k : Nat, k ≤ 1 ∧ i = .int .i64 k ∧ Below w.heap.size w wr ∧ wr.ownsRow w.heap.size 2 1 v 0 []) (fun _ i _ => 1 - (intOf i).toNat)
    case atStart => exact ⟨0, by omega, rfl, Below.refl _ _, World.ownsRow_nil _ _ _ _⟩
    case round =>
      obtain ⟨k, hk, rfl, hbr, ho⟩ := hrel
      by_cases hlt : k = 0
      · subst hlt
        go_wp2_with (first
          | (go_at_call 9; refine (kt _ _ _).mono ?_; rintro e W2 ⟨⟨p2, q2, rfl, r2, n2⟩, hb2⟩; replace ho := own_below ho hb2; replace hbr := below_then hbr hb2; clear hb2; have hsz := hbr.size)
          | (at_builtin; refine wpList_copy rfl (.tmp 60) (.tmp 61) 22 rfl w.heap.size 2 i0 (.int .i64 0) 8 Try.underlying22 hi hz0 hz1 hz2 rfl _ 0 _ rfl ho .i64 p2 0 q2 _ rfl r2 n2 (by unfold maxLen; omega) (by omega) hsz ?_; intro v1 W3 ho3 hg3; have R := And.intro (below_append hbr ho hg3) ho3; clear ho3 hg3 ho))
        all_goals
          go_roundw
          case rel => exact ⟨1, by omega, rfl, R⟩
          case measure => simp [intOf]
      · obtain rfl : k = 1 := by omega
        obtain ⟨a, c, rfl, hr⟩ := own_reads (k := .i64) (zs := []) ho rfl (fun z hz => by cases hz) (fun j hj => by omega)
        by_cases h1 : H = 1
        · subst h1
          go_wp2
          go_ret2
          exact ⟨⟨_, _, rfl, hr⟩, hbr⟩
        · have h2 : 1 < H := by omega
          go_wp2
          go_ret2
          exact ⟨⟨_, _, rfl, hr⟩, hbr⟩

theorem refHeads_far (x : Addr) (n c0 H : Nat) (xs : List Int) (p : Int) (w : World) (h0 : Reads .i64 w (some x) n xs) (l0 : n ≤ c0) (hH : 0 < H) (hn : 0 < n) (h : n % H = 0 ∧ n / H % 2 = 0) (h' : p < 0 ∨ 1000 < p) (hb : n * 8 ≤ 140737488355328) :
    Calls Try.prog 12 #[.slice (some x) n c0, .int .i64 H, .int .i64 p] w fun e w' => e = .returned (.tuple #[.slice none 0 0, .int .i64 20]) ∧ Below w.heap.size w w' := by
  have hm := h0.max
  obtain ⟨d, ed⟩ : ∃ d, n / H = d := ⟨_, rfl⟩
  have ed' : (n : Int) / (H : Int) = (d : Int) := by rw [← ed]; simp
  have er' : (n : Int) % (H : Int) = 0 := by have e : ((n % H : Nat) : Int) = 0 := by rw [h.1]; rfl
                                             simpa using e
  rw [ed] at h
  have d2 : ((d : Int) % 2 == 0) = true := by simp; omega
  have hdn : d ≤ n := by rw [← ed]; exact Nat.div_le_self _ _
  have kt := fun (W : World) a c => refTurn_far a d c p W (by omega) h'
  clear h ed
  have z : ((H : Int) == 0) = false := by simp; omega
  go_enter Try.func12, Try.ntmps12
  go_wp2
  go_loopw [9, 10] (fun v i wr => i = .int .i64 0 ∧ wr = w) (fun _ i _ => 0)
  case atStart => exact ⟨rfl, rfl⟩
  case round =>
    obtain ⟨rfl, hw⟩ := hrel
    subst hw
    go_wp2_with (go_at_call 9; refine (kt _ _ _).mono ?_; rintro e w' ⟨rfl, h⟩; obtain rfl := h.symm)
    all_goals go_ret2
    all_goals exact ⟨rfl, Below.refl _ _⟩

set_option maxHeartbeats 1000000 in
theorem refHeads_ok (x : Addr) (n c0 H : Nat) (xs : List Int) (p : Int) (w : World) (h0 : Reads .i64 w (some x) n xs) (l0 : n ≤ c0) (hH : 0 < H) (hn : 0 < n) (h : n % H = 0 ∧ n / H % 2 = 0) (hp : 0 ≤ p ∧ p ≤ 1000) (hb : n * 8 ≤ 140737488355328) :
    Calls Try.prog 12 #[.slice (some x) n c0, .int .i64 H, .int .i64 p] w fun e w' => (∃ a c, e = .returned (.tuple #[.slice a n c, .int .i64 0]) ∧ Reads .i64 w' a n (headsL xs p (n / H) H) ∧ (a = none → c = 0)) ∧ Below w.heap.size w w' := by
  obtain ⟨i0, hi, hz0, hz1, hz2⟩ := info_parts info2
  have hm := h0.max
  obtain ⟨d, ed⟩ : ∃ d, n / H = d := ⟨_, rfl⟩
  have ed' : (n : Int) / (H : Int) = (d : Int) := by rw [← ed]; simp
  have er' : (n : Int) % (H : Int) = 0 := by have e : ((n % H : Nat) : Int) = 0 := by rw [h.1]; rfl
                                             simpa using e
  have eH : H * d = n := by rw [← ed, Nat.mul_comm]; exact Nat.div_mul_cancel (Nat.dvd_of_mod_eq_zero h.1)
  rw [ed] at h ⊢
  have d2 : ((d : Int) % 2 == 0) = true := by simp; omega
  have d0 : 0 < d := by
    rcases Nat.eq_zero_or_pos d with r | r
    · subst r; simp at eH; omega
    · exact r
  have hdn : d ≤ n := by rw [← ed]; exact Nat.div_le_self _ _
  have hHn : H ≤ n := by rw [← eH]; exact Nat.le_mul_of_pos_right H d0
  have kt := fun (W : World) a c ys (h' : Reads .i64 W a d ys) (hd : d * 8 ≤ 140737488355328) => refTurn_fine a d c ys p W h' h.2 hp hd
  clear h ed
  have z : ((H : Int) == 0) = false := by simp; omega
  go_enter Try.func12, Try.ntmps12
  go_wp2
  go_loopw [9, 10] (fun v i wr => ∃ k : Nat, k ≤ H ∧ i = .int .i64 k ∧ Below w.heap.size w wr ∧ wr.ownsRow w.heap.size 2 1 v (k * d) ((headsL xs p d k).map (Value.int .i64))) (fun _ i _ => H - (intOf i).toNat)
  case atStart => exact ⟨0, Nat.zero_le _, rfl, Below.refl _ _, by simpa [headsL] using World.ownsRow_nil _ _ _ _⟩
  case round =>
    obtain ⟨k, hk, rfl, hbr, ho⟩ := hrel
    by_cases hlt : k < H
    · obtain ⟨hq, hr⟩ := part_reads (h0.below hbr) eH hlt
      have es : headsL xs p d (k + 1) = headsL xs p d k ++ turnZ ((xs.drop (k * d)).take d) p d := rfl
      have ek : (k + 1) * d = k * d + d := Nat.succ_mul k d
      obtain ⟨ys, ey⟩ : ∃ ys, (xs.drop (k * d)).take d = ys := ⟨_, rfl⟩
      obtain ⟨P, eP⟩ : ∃ P, k * d = P := ⟨_, rfl⟩
      have ip : (k : Int) * (d : Int) = (P : Int) := by rw [← eP]; simp
      rw [ey] at hr es
      rw [eP] at hr hq ek ho
      have Es : Hid (headsL xs p d (k + 1) = headsL xs p d k ++ turnZ ys p d) := es
      have Ek : Hid ((k + 1) * d = P + d) := ek
      obtain ⟨Q, eQ⟩ : ∃ Q, P + d = Q := ⟨_, rfl⟩
      have iq : ((k : Int) + 1) * (d : Int) = (Q : Int) := by rw [← eQ, Int.add_mul, ip]; simp
      have eQ2 : Q - P = d := by omega
      have hQ : Q ≤ n := by omega
      have hP : P < Q := by omega
      rename ((d : Int) % 2 != 0) = false => hx
      clear ey eP es ek h0 eH eQ er' d2 hx
      go_wp2_with (first
        | (go_at_call 9; refine (kt _ _ _ _ hr (by omega)).mono ?_; rintro e W2 ⟨⟨p2, q2, rfl, r2, n2⟩, hb2⟩; replace ho := own_below ho hb2; replace hbr := below_then hbr hb2; clear hb2 hr; have hsz := hbr.size)
        | (at_builtin; refine wpList_copy rfl (.tmp 60) (.tmp 61) 22 rfl w.heap.size 2 i0 (.int .i64 0) 8 Try.underlying22 hi hz0 hz1 hz2 rfl _ P _ rfl ho .i64 p2 d q2 _ rfl r2 n2 (by unfold maxLen; omega) (by omega) hsz ?_; intro v1 W3 ho3 hg3; have R := And.intro (below_append hbr ho hg3) ho3; clear ho3 hg3 ho))
      go_roundw
      case rel => exact ⟨k + 1, by omega, by go_num, R.1, by rw [Ek.out, Es.out, List.map_append]; exact R.2⟩
      case measure => simp [intOf]; omega
    · have e : k = H := by omega
      subst e
      rw [eH] at ho
      have fin := own_reads (zs := headsL xs p d k) ho (by rw [headsL_length, eH]) (wf_headsL _ _ _ _) (fun j hj => copy_at _ _ _ (by rw [headsL_length, eH]; exact hj))
      obtain ⟨a, c, rfl, hr⟩ := fin
      have hn := own_none ho
      clear ho kt
      go_wp2
      go_ret2
      exact ⟨⟨_, _, rfl, hr, hn⟩, hbr⟩

theorem headsL_none (p : Int) (m : Nat) (xs : List Int) : headsL xs p 0 m = [] := List.eq_nil_of_length_eq_zero (by rw [headsL_length]; simp)

theorem heads_call (a0 : Option Addr) (n c0 : Nat) (xs : List Int) (hd p : Int) (w : World) (h0 : Reads .i64 w a0 n xs) (l0 : n ≤ c0) (hb : n * 8 ≤ 140737488355328) :
    Calls Try.prog 11 #[.slice a0 n c0, .int .i64 hd, .int .i64 p] w fun e w' => (∃ a m c, e = .returned (.tuple #[.slice a m c, .int .i64 (headsE n hd p)]) ∧ Reads .i64 w' a m (headsR xs hd p n)) ∧ Below w.heap.size w w' := by
  by_cases h1 : hd < 1
  · rw [headsR_no (by rw [headsE_low h1]; decide), headsE_low h1]
    exact (heads_low _ _ _ _ _ _ h1).mono fun e w' ⟨he, hw⟩ => ⟨⟨none, 0, 0, he, Reads.nil _ _⟩, hw ▸ Below.refl _ _⟩
  · obtain ⟨H, rfl⟩ : ∃ H : Nat, hd = H := ⟨hd.toNat, by omega⟩
    have hH : 0 < H := by omega
    by_cases h2 : n % H = 0 ∧ n / H % 2 = 0
    · have eE := headsE_even (p := p) hH h2
      by_cases hn : n = 0
      · subst hn
        have e0 : xs = [] := List.eq_nil_of_length_eq_zero h0.len
        subst e0
        rw [Nat.zero_div] at eE
        have eR : headsR [] H p 0 = turnR [] p 0 := by
          by_cases h : turnE 0 p = 0
          · rw [headsR_ok (by rw [eE, h]), turnR_ok h, Nat.zero_div, headsL_none]; rfl
          · rw [headsR_no (by rw [eE]; exact h), turnR_no h]
        rw [eE, eR]
        exact (heads_none _ _ _ _ _ hH).mono fun e w' ⟨⟨a, m, c, he, hr, _⟩, hw⟩ => ⟨⟨a, m, c, he, hr⟩, hw⟩
      · have hn : 0 < n := by omega
        obtain ⟨x, rfl⟩ := h0.some_ hn
        by_cases h' : p < 0 ∨ 1000 < p
        · have eT := turnE_far (n := n / H) (by omega) h'
          rw [headsR_no (by rw [eE, eT]; decide), eE, eT]
          exact (heads_far _ _ _ _ _ _ _ h0 l0 hH hn h2 h' hb).mono fun e w' ⟨he, hw⟩ => ⟨⟨none, 0, 0, he, Reads.nil _ _⟩, hw⟩
        · have eT := turnE_ok (n := n / H) (by omega) h'
          rw [headsR_ok (by rw [eE, eT]), eE, eT, Int.toNat_natCast]
          exact (heads_ok _ _ _ _ _ _ _ h0 l0 hH hn h2 (by omega) hb).mono fun e w' ⟨⟨a, c, he, hr, _⟩, hw⟩ => ⟨⟨a, _, c, he, hr⟩, hw⟩
    · rw [headsR_no (by rw [headsE_odd hH h2]; decide), headsE_odd hH h2]
      exact (heads_odd _ _ _ _ _ _ h0.max hH h2).mono fun e w' ⟨he, hw⟩ => ⟨⟨none, 0, 0, he, Reads.nil _ _⟩, hw ▸ Below.refl _ _⟩

theorem refHeads_call (a0 : Option Addr) (n c0 : Nat) (xs : List Int) (hd p : Int) (w : World) (h0 : Reads .i64 w a0 n xs) (e0 : a0 = none → c0 = 0) (l0 : n ≤ c0) (hb : n * 8 ≤ 140737488355328) :
    Calls Try.prog 12 #[.slice a0 n c0, .int .i64 hd, .int .i64 p] w fun e w' => (∃ a m c, e = .returned (.tuple #[.slice a m c, .int .i64 (headsE n hd p)]) ∧ Reads .i64 w' a m (headsR xs hd p n)) ∧ Below w.heap.size w w' := by
  by_cases h1 : hd < 1
  · rw [headsR_no (by rw [headsE_low h1]; decide), headsE_low h1]
    exact (refHeads_low _ _ _ _ _ _ h1).mono fun e w' ⟨he, hw⟩ => ⟨⟨none, 0, 0, he, Reads.nil _ _⟩, hw ▸ Below.refl _ _⟩
  · obtain ⟨H, rfl⟩ : ∃ H : Nat, hd = H := ⟨hd.toNat, by omega⟩
    have hH : 0 < H := by omega
    by_cases h2 : n % H = 0 ∧ n / H % 2 = 0
    · have eE := headsE_even (p := p) hH h2
      by_cases h' : p < 0 ∨ 1000 < p
      · have eT := turnE_far (n := n / H) (by omega) h'
        rw [headsR_no (by rw [eE, eT]; decide), eE, eT]
        by_cases hn : n = 0
        · subst hn
          exact (refHeads_none_far _ _ _ _ _ e0 hH h').mono fun e w' ⟨he, hw⟩ => ⟨⟨none, 0, 0, he, Reads.nil _ _⟩, hw⟩
        · have hn : 0 < n := by omega
          obtain ⟨x, rfl⟩ := h0.some_ hn
          exact (refHeads_far _ _ _ _ _ _ _ h0 l0 hH hn h2 h' hb).mono fun e w' ⟨he, hw⟩ => ⟨⟨none, 0, 0, he, Reads.nil _ _⟩, hw⟩
      · have eT := turnE_ok (n := n / H) (by omega) h'
        rw [headsR_ok (by rw [eE, eT]), eE, eT, Int.toNat_natCast]
        by_cases hn : n = 0
        · subst hn
          rw [Nat.zero_div, headsL_none]
          exact (refHeads_none_ok _ _ _ _ _ e0 hH (by omega)).mono fun e w' ⟨⟨a, c, he, hr⟩, hw⟩ => ⟨⟨a, _, c, he, hr⟩, hw⟩
        · have hn : 0 < n := by omega
          obtain ⟨x, rfl⟩ := h0.some_ hn
          exact (refHeads_ok _ _ _ _ _ _ _ h0 l0 hH hn h2 (by omega) hb).mono fun e w' ⟨⟨a, c, he, hr, _⟩, hw⟩ => ⟨⟨a, _, c, he, hr⟩, hw⟩
    · rw [headsR_no (by rw [headsE_odd hH h2]; decide), headsE_odd hH h2]
      exact (refHeads_odd _ _ _ _ _ _ h0.max hH h2).mono fun e w' ⟨he, hw⟩ => ⟨⟨none, 0, 0, he, Reads.nil _ _⟩, hw ▸ Below.refl _ _⟩

end Go.Proofs.Ytjbjclphomeafaa
