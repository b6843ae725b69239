/- What the document's Top and Max answer: contracts of the calls. -/
import Derived.Test.YteeljnibglnflaaRows
import Derived.Test.YteeljnibglnflaaView
import Derived.Test.YteeljnibglnflaaRanks
import Derived.Test.YteeljnibglnflaaOwn
import Derived.Test.YteeljnibglnflaaSoft
import Derived.Test.YteeljnibglnflaaRank
import Derived.Test.YteeljnibglnflaaTop
import Derived.Test.YteeljnibglnflaaRefRank
import Derived.WalkKit
import Derived.ProofKit
import Derived.OpenShut
import Derived.Below
import Derived.Deep.QuietTactic
import Derived.BigQuiet
import Derived.WalkLawsBesides
import Derived.Deep.RegionWith
import Derived.Deep.RegionLaw
import Derived.Laws.AppendOwnNone
import Derived.Defers
import Derived.Recover
import Derived.Laws.Pointers
namespace Go.Proofs.Yteeljnibglnflaa

set_option maxRecDepth 20000

open Go.ChangeShapes Go.WideShapes Go.ChangeAt Go.RowKit

set_option linter.unusedVariables false

/-- a nil row of the call's own has no room -/
theorem own_none {w : World} {B : Nat} {e : TypeId} {a : Option Addr} {n m c : Nat} {cs : List Value} (h : w.ownsRow B e 1 (.slice a n c) m cs) : a = none → c = 0 := by
  intro ha
  subst ha
  rcases h.2 with ⟨h, _⟩ | ⟨g, cap, cur, h, _⟩
  · simp only [Value.slice.injEq] at h
    exact h.2.2
  · simp at h

theorem own_cap {w : World} {B : Nat} {e : TypeId} {a : Option Addr} {n c : Nat} {cs : List Value} (h : w.ownsRow B e 1 (.slice a n c) n cs) : n ≤ c := by
  rcases h.2 with ⟨h, h2⟩ | ⟨g, cap, cur, h, _, _, hn, _⟩
  · omega
  · simp only [Value.slice.injEq] at h
    omega

def placeF (xs : List Int) (j : Nat) : Int := ((places xs).getD j 0 : Nat)

theorem top_reads {xs : List Int} {k : Int} {M : Nat} (hM : M = min k.toNat xs.length) {w : World} {B : Nat} {v : Value} (hm : xs.length ≤ 9223372036854775807) (h : w.ownsRow B 3 1 v M (gath (placeF xs) .i64 M)) :
    ∃ a c, v = .slice a M c ∧ Reads .i64 w a M (pickZ xs k) ∧ (a = none → c = 0) ∧ M ≤ c := by
  obtain ⟨a, c, rfl, hr⟩ := own_reads (k := .i64) (zs := pickZ xs k) h (by rw [topZ_length, hM]) (fun z hz => by rw [topZ_all] at hz; exact allZ_wf xs hm z (List.mem_of_mem_take hz)) (fun j hj => by rw [gath_at _ _ _ _ hj, topZ_at xs k j (by omega)]; rfl)
  exact ⟨a, c, rfl, hr, own_none h, own_cap h⟩

set_option maxHeartbeats 2000000 in
set_option maxRecDepth 20000 in
theorem refTop_call (a0 : Option Addr) (n c0 : Nat) (xs : List Int) (k : Int) (w : World) (h0 : Reads .i64 w a0 n xs) (hb : n * 8 ≤ 140737488355328) :
    Calls Try.prog 27 #[.slice a0 n c0, .int .i64 k] w fun e w' => (∃ a c, e = .returned (.slice a (min k.toNat n) c) ∧ Reads .i64 w' a (min k.toNat n) (pickZ xs k) ∧ (a = none → c = 0) ∧ min k.toNat n ≤ c) ∧ Below w.heap.size w w' := by
  obtain ⟨i0, hi, hz0, hz1, hz2⟩ := info_parts info3
  have hm := h0.max
  have hl := h0.len
  obtain ⟨M, eM⟩ : ∃ M, min k.toNat n = M := ⟨_, rfl⟩
  rw [eM]
  have fin := fun (W : World) (v : Value) (h : W.ownsRow w.heap.size 3 1 v M (gath (placeF xs) .i64 M)) => top_reads (xs := xs) (k := k) (by omega) (by omega) h
  have hord := places_ordered xs
  rw [hl] at hord
  go_enter Try.func27, Try.ntmps27
  go_wp2
  go_loopw [5, 6] (fun v i wr => ∃ q : Nat, q ≤ M ∧ i = .int .i64 q ∧ Below w.heap.size w wr ∧ wr.ownsRow w.heap.size 3 1 v q (gath (placeF xs) .i64 q)) (fun _ i _ => M - (intOf i).toNat)
  case atStart => exact ⟨0, Nat.zero_le _, rfl, Below.refl _ _, World.ownsRow_nil _ _ _ _⟩
  case round =>
    obtain ⟨q, hq, rfl, hbr, ho⟩ := hrel
    by_cases hlt : q < M
    · have t1 : (q : Int) < (n : Int) := by omega
      have t2 : (q : Int) < k := by omega
      have hqn : q < n := by omega
      have hs := hord.lt hqn
      have hri := fun i (hi : i < n) => hord.rank_iff (i := i) (k := q) hi hqn
      have hF : Hid (placeF xs q = ((places xs).getD q 0 : Nat)) := show placeF xs q = _ from rfl
      obtain ⟨s, es⟩ : ∃ s, (places xs).getD q 0 = s := ⟨_, rfl⟩
      rw [es] at hs hri hF
      have Hbr : Hid (Below w.heap.size w wr) := hbr
      have Ho : Hid (wr.ownsRow w.heap.size 3 1 u5 q (gath (placeF xs) .i64 q)) := ho
      clear es ho hbr
      go_wp2
      go_loopw [5, 7] (fun v i wr => ∃ r C : Nat, r ≤ n ∧ i = .int .i64 r ∧ Below w.heap.size w wr ∧ ((s < r ∧ C = q + 1) ∨ (r ≤ s ∧ C = q)) ∧ wr.ownsRow w.heap.size 3 1 v C (gath (placeF xs) .i64 C)) (fun _ i _ => n - (intOf i).toNat)
      case atStart => exact ⟨0, q, Nat.zero_le _, rfl, Hbr.out, .inr ⟨Nat.zero_le _, rfl⟩, Ho.out⟩
      case round =>
        obtain ⟨r, C, hr, rfl, hbr, hC, ho⟩ := hrel
        by_cases hrn : r < n
        · have kr := refRank_ok a0 n c0 xs r wr (h0.below hbr) hrn
          have hri' := hri r hrn
          have hR := rankTo_le xs n r
          obtain ⟨R, eR⟩ : ∃ R, rankTo xs n r = R := ⟨_, rfl⟩
          rw [eR] at kr hri' hR
          clear eR hri
          by_cases hrs : s = r
          · have e1 : R = q := hri'.2 hrs
            subst e1
            obtain rfl : C = R := by omega
            have hz : Hid ((r : Int) = placeF xs C) := show (r : Int) = placeF xs C by rw [hF.out, hrs]
            have hsz := hbr.size
            have hsr : s < r + 1 := by omega
            clear hri' hC hF hrs
            go_wp2_with (first
              | (go_at_call 38; refine kr.mono ?_; rintro e W2 ⟨rfl, hw2⟩; replace hbr := below_drew hbr hw2; replace ho := own_below ho (below_drew (Below.refl _ _) hw2); have hsz2 := hbr.size; clear hw2)
              | (at_builtin; refine wpList_append_own _ rfl (.tmp 30) (.tmp 32) 29 rfl w.heap.size 3 i0 (.int .i64 0) 1 8 Try.underlying29 hi hz0 hz1 hz2 rfl (by decide) _ _ _ rfl (ho.alloc _) ⟨_, 0, none⟩ 1 1 [.int .i64 (r : Nat)] rfl rfl (one_new _ _ _) (one_oneCell _ _) (by unfold maxLen; omega) (by omega) (by simp; omega) ?_; intro v' w1 ho' hg _))
            go_roundw
            case rel =>
              have st := append_step hsz2 hz.out hbr ho ho' hg
              exact ⟨r + 1, C + 1, by omega, by go_num, st.1, .inl ⟨hsr, rfl⟩, st.2⟩
            case measure => simp [intOf]; omega
          · have e1 : ¬R = q := fun h => hrs (hri'.1 h)
            have e2 : ¬(R : Int) = (q : Int) := by omega
            have HC : Hid ((s < r + 1 ∧ C = q + 1) ∨ (r + 1 ≤ s ∧ C = q)) := show (s < r + 1 ∧ C = q + 1) ∨ (r + 1 ≤ s ∧ C = q) by omega
            clear hri' hC hF
            go_wp2_with (first
              | (go_at_call 38; refine kr.mono ?_; rintro e W2 ⟨rfl, hw2⟩; replace hbr := below_drew hbr hw2; replace ho := own_below ho (below_drew (Below.refl _ _) hw2); clear hw2))
            go_roundw
            case rel => exact ⟨r + 1, C, by omega, by go_num, hbr, HC.out, ho⟩
            case measure => simp [intOf]; omega
        · have e : r = n := by omega
          subst e
          obtain rfl : C = q + 1 := by omega
          clear hC hF hri
          go_wp2
          go_roundw
          case rel => exact ⟨q + 1, by omega, by go_num, hbr, ho⟩
          case measure => simp [intOf]; omega
    · have e : q = M := by omega
      subst e
      obtain ⟨a, c, rfl, R⟩ := fin _ _ ho
      clear fin ho hord
      by_cases hqn : q < n
      · have t1 : (q : Int) < (n : Int) := by omega
        have t2 : ¬(q : Int) < k := by omega
        clear eM
        go_wp2
        go_ret
        exact ⟨⟨_, _, rfl, R⟩, hbr⟩
      · have t1 : ¬(q : Int) < (n : Int) := by omega
        clear eM
        go_wp2
        go_ret
        exact ⟨⟨_, _, rfl, R⟩, hbr⟩

theorem refMax_nil (a0 : Option Addr) (c0 : Nat) (w : World) : Calls Try.prog 30 #[.slice a0 0 c0] w fun e w' => e = .returned (.int .i64 (-1)) ∧ w' = w := by
  go_enter Try.func30, Try.ntmps30
  go_wp2_with fail
  go_ret
  exact ⟨rfl, rfl⟩

theorem refMax_some (a0 : Option Addr) (n c0 : Nat) (xs : List Int) (w : World) (h0 : Reads .i64 w a0 n xs) (hn : 0 < n) (hb : n * 8 ≤ 140737488355328) :
    Calls Try.prog 30 #[.slice a0 n c0] w fun e w' => e = .returned (.int .i64 ((places xs).getD 0 0 : Nat)) ∧ Below w.heap.size w w' := by
  have hm := h0.max
  have hl := h0.len
  have hn' : ¬(n : Int) = 0 := by omega
  have kt := refTop_call a0 n c0 xs 1 w h0 hb
  have e1 : min (1 : Int).toNat n = 1 := by
    have : (1 : Int).toNat = 1 := rfl
    omega
  rw [e1] at kt
  have e2 : (pickZ xs 1).getD 0 0 = ((places xs).getD 0 0 : Nat) := topZ_at xs 1 0 (by have : (1 : Int).toNat = 1 := rfl; omega)
  obtain ⟨F, eF⟩ : ∃ F, (places xs).getD 0 0 = F := ⟨_, rfl⟩
  rw [eF] at e2 ⊢
  have cellOf : ∀ W a, Reads .i64 W a 1 (pickZ xs 1) → ∃ x, a = some x ∧ W.cell? x = some (.int .i64 (F : Nat)) := by
    intro W a h
    obtain ⟨x, rfl⟩ := h.some_ (by omega)
    have := h.cell x rfl 0 (by omega)
    rw [e2] at this
    exact ⟨x, rfl, by simpa [Addr.add] using this⟩
  clear eF e2 h0
  go_enter Try.func30, Try.ntmps30
  go_wp2_with (go_at_call 27; refine kt.mono ?_; rintro e W1 ⟨⟨p1, q1, rfl, r1, -⟩, hb1⟩; obtain ⟨x1, rfl, c1⟩ := cellOf _ _ r1)
  go_ret
  exact ⟨rfl, hb1⟩

theorem refMax_call (a0 : Option Addr) (n c0 : Nat) (xs : List Int) (w : World) (h0 : Reads .i64 w a0 n xs) (hb : n * 8 ≤ 140737488355328) :
    Calls Try.prog 30 #[.slice a0 n c0] w fun e w' => e = .returned (.int .i64 (maxZ xs)) ∧ Below w.heap.size w w' := by
  have hl := h0.len
  unfold maxZ
  rw [hl]
  by_cases h : n = 0
  · rw [if_pos h]
    subst h
    exact (refMax_nil a0 c0 w).mono fun e w' ⟨he, hw⟩ => ⟨he, hw ▸ Below.refl _ _⟩
  · rw [if_neg h]
    exact refMax_some a0 n c0 xs w h0 (by omega) hb

end Go.Proofs.Yteeljnibglnflaa
