/- What the program's Heads gives back: contracts of the calls. -/
import Derived.Test.YtjbjclphomeafaaRows
import Derived.Test.YtjbjclphomeafaaSat
import Derived.Test.YtjbjclphomeafaaView
import Derived.Test.YtjbjclphomeafaaOwn
import Derived.Test.YtjbjclphomeafaaSteps
import Derived.Test.YtjbjclphomeafaaWhere
import Derived.Test.YtjbjclphomeafaaTabs
import Derived.Test.YtjbjclphomeafaaPair
import Derived.Test.YtjbjclphomeafaaTurn
import Derived.Test.YtjbjclphomeafaaTurns
import Derived.WalkKit
import Derived.ProofKit
import Derived.OpenShut
import Derived.Below
import Derived.WalkLawsBesides
namespace Go.Proofs.Ytjbjclphomeafaa
open Go.ChangeShapes Go.WideShapes Go.ChangeAt Go.RowKit
set_option linter.unusedVariables false

/-- the first m parts of d members each, one behind the other, each turned -/
def headsL (xs : List Int) (p : Int) (d : Nat) : Nat → List Int
  | 0 => []
  | m + 1 => headsL xs p d m ++ turnZ ((xs.drop (m * d)).take d) p d

theorem turnZ_length (xs : List Int) (p : Int) (n : Nat) : (turnZ xs p n).length = n := by simp [turnZ]

theorem headsL_length (xs : List Int) (p : Int) (d m : Nat) : (headsL xs p d m).length = m * d := by
  induction m with
  | zero => simp [headsL]
  | succ m ih => rw [headsL, List.length_append, ih, turnZ_length, Nat.succ_mul]

theorem wf_turnZ (xs : List Int) (p : Int) (n : Nat) : ∀ z ∈ turnZ xs p n, (Lit.int .i64 z).wf = true := fun z hz => by
  obtain ⟨y, _, rfl⟩ := List.mem_map.1 hz
  exact wf_turnF _ _ _

theorem wf_headsL (xs : List Int) (p : Int) (d m : Nat) : ∀ z ∈ headsL xs p d m, (Lit.int .i64 z).wf = true := by
  induction m with
  | zero => intro z hz; simp [headsL] at hz
  | succ m ih =>
    intro z hz
    rw [headsL, List.mem_append] at hz
    rcases hz with h | h
    · exact ih z h
    · exact wf_turnZ _ _ _ z h

theorem splits_call (n H : Nat) (hH : 0 < H) (hm : n ≤ 9223372036854775807) (w : World) :
    Calls Try.prog 19 #[.int .i64 n, .int .i64 H] w fun e w' => e = .returned (.bool (decide (n % H = 0 ∧ n / H % 2 = 0))) ∧ w' = w := by
  have z : ((H : Int) == 0) = false := by simp; omega
  obtain ⟨r, er⟩ : ∃ r, n % H = r := ⟨_, rfl⟩
  obtain ⟨d, ed⟩ : ∃ d, n / H = d := ⟨_, rfl⟩
  have er' : (n : Int) % (H : Int) = (r : Int) := by rw [← er]; simp
  have ed' : (n : Int) / (H : Int) = (d : Int) := by rw [← ed]; simp
  have hd : d ≤ n := by rw [← ed]; exact Nat.div_le_self _ _
  rw [er, ed]
  clear er ed
  go_enter Try.func19, Try.ntmps19
  go_wp2
  · have h : r = 0 := by assumption
    go_ret
    refine ⟨?_, rfl⟩
    by_cases e : d % 2 = 0
    · have e' : ((d : Int) % 2 == 0) = true := by simp; omega
      simp [h, e, e']
    · have e' : ((d : Int) % 2 == 0) = false := by simp; omega
      simp [e, e']
  · have h : ¬r = 0 := by assumption
    go_ret
    exact ⟨by simp [h], rfl⟩

/-- the error that Heads answers, 0 being none -/
def headsE (n : Nat) (hd p : Int) : Int := if hd < 1 then 20 else if n % hd.toNat = 0 ∧ n / hd.toNat % 2 = 0 then turnE (n / hd.toNat) p else 21
/-- the row that Heads answers -/
def headsR (xs : List Int) (hd p : Int) (n : Nat) : List Int := if headsE n hd p = 0 then headsL xs p (n / hd.toNat) hd.toNat else []

theorem headsR_no {xs : List Int} {hd p : Int} {n : Nat} (h : headsE n hd p ≠ 0) : headsR xs hd p n = [] := by unfold headsR; rw [if_neg h]
theorem headsR_ok {xs : List Int} {hd p : Int} {n : Nat} (h : headsE n hd p = 0) : headsR xs hd p n = headsL xs p (n / hd.toNat) hd.toNat := by unfold headsR; rw [if_pos h]
theorem headsE_low {n : Nat} {hd p : Int} (h : hd < 1) : headsE n hd p = 20 := by unfold headsE; rw [if_pos h]
theorem headsE_odd {n H : Nat} {p : Int} (h : 0 < H) (h' : ¬(n % H = 0 ∧ n / H % 2 = 0)) : headsE n H p = 21 := by unfold headsE; rw [if_neg (by omega), Int.toNat_natCast, if_neg h']
theorem headsE_even {n H : Nat} {p : Int} (h : 0 < H) (h' : n % H = 0 ∧ n / H % 2 = 0) : headsE n H p = turnE (n / H) p := by unfold headsE; rw [if_neg (by omega), Int.toNat_natCast, if_pos h']

theorem turn_fine (a0 : Option Addr) (n c0 : Nat) (xs : List Int) (p : Int) (w : World) (h0 : Reads .i64 w a0 n xs) (hn : n % 2 = 0) (hp : 0 ≤ p ∧ p ≤ 1000) (hb : n * 8 ≤ 281474976710656) :
    Calls Try.prog 8 #[.slice a0 n c0, .int .i64 p] w fun e w' => (∃ a c, e = .returned (.tuple #[.slice a n c, .int .i64 0]) ∧ Reads .i64 w' a n (turnZ xs p n) ∧ (a = none → c = 0)) ∧ Below w.heap.size w w' := by
  obtain ⟨k, rfl⟩ : ∃ k, n = 2 * k := ⟨n / 2, by omega⟩
  exact turn_ok _ _ _ _ _ _ h0 hp hb

theorem Reads.none_ (k : IntKind) (w : World) (a : Option Addr) : Reads k w a 0 [] :=
  ⟨rfl, by omega, fun i => by simpa using wf_nought k, fun h => by omega, fun _ _ i h => by omega⟩

theorem heads_low (a0 : Option Addr) (n c0 : Nat) (hd p : Int) (w : World) (h : hd < 1) :
    Calls Try.prog 11 #[.slice a0 n c0, .int .i64 hd, .int .i64 p] w fun e w' => e = .returned (.tuple #[.slice none 0 0, .int .i64 20]) ∧ w' = w := by
  go_enter Try.func11, Try.ntmps11
  go_wp2_with fail
  go_ret2
  exact ⟨rfl, rfl⟩

theorem heads_odd (a0 : Option Addr) (n c0 H : Nat) (p : Int) (w : World) (hm : n ≤ 9223372036854775807) (hH : 0 < H) (h : ¬(n % H = 0 ∧ n / H % 2 = 0)) :
    Calls Try.prog 11 #[.slice a0 n c0, .int .i64 H, .int .i64 p] w fun e w' => e = .returned (.tuple #[.slice none 0 0, .int .i64 21]) ∧ w' = w := by
  have ks := splits_call n H hH hm w
  rw [decide_eq_false h] at ks
  clear h
  go_enter Try.func11, Try.ntmps11
  go_wp2_with (go_at_call 19; refine ks.mono ?_; rintro e w' ⟨rfl, h⟩; obtain rfl := h.symm)
  go_ret2
  exact ⟨rfl, rfl⟩

theorem heads_none (a0 : Option Addr) (c0 H : Nat) (p : Int) (w : World) (hH : 0 < H) :
    Calls Try.prog 11 #[.slice a0 0 c0, .int .i64 H, .int .i64 p] w fun e w' => (∃ a m c, e = .returned (.tuple #[.slice a m c, .int .i64 (turnE 0 p)]) ∧ Reads .i64 w' a m (turnR [] p 0) ∧ (a = none → c = 0)) ∧ Below w.heap.size w w' := by
  have ks := splits_call 0 H hH (by omega) w
  rw [decide_eq_true (by simp)] at ks
  have kt := turn_call none 0 0 [] p w (Reads.nil _ _) (by omega)
  go_enter Try.func11, Try.ntmps11
  go_wp2_with (first | (go_at_call 19; refine ks.mono ?_; rintro e w' ⟨rfl, h⟩; obtain rfl := h.symm) | (go_at_call 8; refine kt.mono ?_; rintro e W1 ⟨⟨p1, m1, q1, rfl, r1, n1⟩, hb1⟩))
  go_ret2
  exact ⟨⟨_, _, _, rfl, r1, n1⟩, hb1⟩

/-- what a cut-out part of a row reads as -/
theorem part_reads {w : World} {x : Addr} {n : Nat} {xs : List Int} (h : Reads .i64 w (some x) n xs) {H d m : Nat} (e : H * d = n) (hm : m < H) : m * d + d ≤ n ∧ Reads .i64 w (some (x.add (m * d))) d ((xs.drop (m * d)).take d) := by
  have h1 : (m + 1) * d ≤ H * d := Nat.mul_le_mul_right d hm
  rw [Nat.succ_mul, e] at h1
  exact ⟨h1, h.cut _ _ h1⟩

theorem heads_far (x : Addr) (n c0 H : Nat) (xs : List Int) (p : Int) (w : World) (h0 : Reads .i64 w (some x) n xs) (l0 : n ≤ c0) (hH : 0 < H) (hn : 0 < n) (h : n % H = 0 ∧ n / H % 2 = 0) (h' : p < 0 ∨ 1000 < p) (hb : n * 8 ≤ 140737488355328) :
    Calls Try.prog 11 #[.slice (some x) n c0, .int .i64 H, .int .i64 p] w fun e w' => e = .returned (.tuple #[.slice none 0 0, .int .i64 20]) ∧ Below w.heap.size w w' := by
  obtain ⟨i0, hi, hz0, hz1, hz2⟩ := info_parts info2
  have hm := h0.max
  have ks := splits_call n H hH hm w
  rw [decide_eq_true h] at ks
  obtain ⟨d, ed⟩ : ∃ d, n / H = d := ⟨_, rfl⟩
  have ed' : (n : Int) / (H : Int) = (d : Int) := by rw [← ed]; simp
  have eH : H * d = n := by rw [← ed, Nat.mul_comm]; exact Nat.div_mul_cancel (Nat.dvd_of_mod_eq_zero h.1)
  rw [ed] at h
  have d2 := h.2
  have d0 : 0 < d := by
    rcases Nat.eq_zero_or_pos d with r | r
    · subst r; simp at eH; omega
    · exact r
  have hdn : d ≤ n := by rw [← ed]; exact Nat.div_le_self _ _
  clear h ed
  have z : ((H : Int) == 0) = false := by simp; omega
  have zn : ((n : Int) == 0) = false := by simp; omega
  have kt := fun (W : World) a c => turn_far a d c p W (by omega) h'
  go_enter Try.func11, Try.ntmps11
  go_wp2_with (first
    | (go_at_call 19; refine ks.mono ?_; rintro e w' ⟨rfl, h⟩; obtain rfl := h.symm)
    | (at_make; refine wpList_make_own _ rfl _ (.tmp 28) 22 rfl w.heap.size 2 i0 (.int .i64 0) 1 Try.underlying22 hi hz0 hz1 .i64 .i64 _ n rfl rfl rfl (by rw [hz2]; omega) (by unfold maxLen; omega) (Nat.le_refl _) ?_; intro w1 hown hgrow))
  have hbel : Below w.heap.size w w1 := (Below.refl _ _).grown hgrow (Nat.le_refl _) (fun k h => by cases h)
  go_wp2
  go_loopw [8, 10] (fun v i wr => i = .int .i64 0 ∧ Below w.heap.size w wr) (fun _ i _ => 0)
  case atStart => exact ⟨rfl, hbel⟩
  case round =>
    obtain ⟨rfl, hbr⟩ := hrel
    go_wp2_with (go_at_call 8; refine (kt _ _ _).mono ?_; rintro e w' ⟨rfl, h⟩; obtain rfl := h.symm)
    go_ret2
    exact ⟨rfl, hbr⟩

theorem own_cap {w : World} {B : Nat} {e : TypeId} {a : Option Addr} {n c : Nat} {cs : List Value} (h : w.ownsRow B e 1 (.slice a n c) n cs) : n ≤ c := by
  rcases h.2 with ⟨h, _⟩ | ⟨g, cap, cur, h, _, _, hn, _⟩
  · simp only [Value.slice.injEq] at h
    omega
  · simp only [Value.slice.injEq] at h
    omega

set_option maxHeartbeats 1000000 in
theorem heads_ok (x : Addr) (n c0 H : Nat) (xs : List Int) (p : Int) (w : World) (h0 : Reads .i64 w (some x) n xs) (l0 : n ≤ c0) (hH : 0 < H) (hn : 0 < n) (h : n % H = 0 ∧ n / H % 2 = 0) (hp : 0 ≤ p ∧ p ≤ 1000) (hb : n * 8 ≤ 140737488355328) :
    Calls Try.prog 11 #[.slice (some x) n c0, .int .i64 H, .int .i64 p] w fun e w' => (∃ a c, e = .returned (.tuple #[.slice a n c, .int .i64 0]) ∧ Reads .i64 w' a n (headsL xs p (n / H) H) ∧ n ≤ c) ∧ Below w.heap.size w w' := by
  obtain ⟨i0, hi, hz0, hz1, hz2⟩ := info_parts info2
  have hm := h0.max
  have ks := splits_call n H hH hm w
  rw [decide_eq_true h] at ks
  obtain ⟨d, ed⟩ : ∃ d, n / H = d := ⟨_, rfl⟩
  have ed' : (n : Int) / (H : Int) = (d : Int) := by rw [← ed]; simp
  have eH : H * d = n := by rw [← ed, Nat.mul_comm]; exact Nat.div_mul_cancel (Nat.dvd_of_mod_eq_zero h.1)
  rw [ed] at h ⊢
  have d2 := h.2
  have d0 : 0 < d := by
    rcases Nat.eq_zero_or_pos d with r | r
    · subst r; simp at eH; omega
    · exact r
  have hdn : d ≤ n := by rw [← ed]; exact Nat.div_le_self _ _
  clear h ed
  have z : ((H : Int) == 0) = false := by simp; omega
  have zn : ((n : Int) == 0) = false := by simp; omega
  have kt := fun (W : World) a c ys (h : Reads .i64 W a d ys) (hd : d * 8 ≤ 281474976710656) => turn_fine a d c ys p W h d2 hp hd
  go_enter Try.func11, Try.ntmps11
  go_wp2_with (first
    | (go_at_call 19; refine ks.mono ?_; rintro e w' ⟨rfl, h⟩; obtain rfl := h.symm)
    | (at_make; refine wpList_make_own _ rfl _ (.tmp 28) 22 rfl w.heap.size 2 i0 (.int .i64 0) 1 Try.underlying22 hi hz0 hz1 .i64 .i64 _ n rfl rfl rfl (by rw [hz2]; omega) (by unfold maxLen; omega) (Nat.le_refl _) ?_; intro w1 hown hgrow))
  have hbel : Below w.heap.size w w1 := (Below.refl _ _).grown hgrow (Nat.le_refl _) (fun k h => by cases h)
  go_wp2
  go_loopw [8, 10] (fun v i wr => ∃ k : Nat, k ≤ H ∧ i = .int .i64 ((k * d : Nat) : Int) ∧ Below w.heap.size w wr ∧ wr.ownsRow w.heap.size 2 1 v (k * d) ((headsL xs p d k).map (Value.int .i64))) (fun _ i _ => n - (intOf i).toNat)
  case atStart => exact ⟨0, Nat.zero_le _, by simp, hbel, by simpa [headsL] using hown⟩
  case round =>
    clear hown hgrow hbel
    obtain ⟨k, hk, rfl, hbr, ho⟩ := hrel
    by_cases hlt : k < H
    · obtain ⟨hq, hr⟩ := part_reads (h0.below hbr) eH hlt
      have es : headsL xs p d (k + 1) = headsL xs p d k ++ turnZ ((xs.drop (k * d)).take d) p d := rfl
      have ek : (k + 1) * d = k * d + d := Nat.succ_mul k d
      obtain ⟨ys, ey⟩ : ∃ ys, (xs.drop (k * d)).take d = ys := ⟨_, rfl⟩
      obtain ⟨P, eP⟩ : ∃ P, k * d = P := ⟨_, rfl⟩
      rw [ey] at hr es
      rw [eP] at hr hq ek ho ⊢
      have Es : Hid (headsL xs p d (k + 1) = headsL xs p d k ++ turnZ ys p d) := es
      have Ek : Hid ((k + 1) * d = P + d) := ek
      obtain ⟨Q, eQ⟩ : ∃ Q, P + d = Q := ⟨_, rfl⟩
      have eQ' : (P : Int) + (d : Int) = (Q : Int) := by omega
      have eQ2 : Q - P = d := by omega
      have hQ : Q ≤ n := by omega
      have hP : P < Q := by omega
      clear ey eP es ek h0 ks eH hk eQ
      go_wp2_with (first
        | (go_at_call 8; refine (kt _ _ _ _ hr (by omega)).mono ?_; rintro e W2 ⟨⟨p2, q2, rfl, r2, n2⟩, hb2⟩; replace ho := own_below ho hb2; replace hbr := below_then hbr hb2; clear hb2 hr; have hsz := hbr.size)
        | (at_builtin; refine wpList_copy rfl (.tmp 55) (.tmp 56) 22 rfl w.heap.size 2 i0 (.int .i64 0) 8 Try.underlying22 hi hz0 hz1 hz2 rfl _ P _ rfl ho .i64 p2 d q2 _ rfl r2 n2 (by unfold maxLen; omega) (by omega) hsz ?_; intro v1 W3 ho3 hg3; have R := And.intro (below_append hbr ho hg3) ho3; clear ho3 hg3 ho))
      go_roundw
      case rel => exact ⟨k + 1, by omega, by rw [Ek.out]; congr 1; omega, R.1, by rw [Ek.out, Es.out, List.map_append]; exact R.2⟩
      case measure => simp [intOf]; omega
    · have e : k = H := by omega
      subst e
      rw [eH] at ho ⊢
      have fin := own_reads (zs := headsL xs p d k) ho (by rw [headsL_length, eH]) (wf_headsL _ _ _ _) (fun j hj => copy_at _ _ _ (by rw [headsL_length, eH]; exact hj))
      obtain ⟨a, c, rfl, hr⟩ := fin
      have hn := own_cap ho
      clear ho kt
      go_wp2
      go_ret2
      exact ⟨⟨_, _, rfl, hr, hn⟩, hbr⟩

end Go.Proofs.Ytjbjclphomeafaa
