/- What the program's greatest member and Soft give back: contracts of the calls. -/
import Derived.Test.YtkoifogkdbhpcaaRows
import Derived.Test.YtkoifogkdbhpcaaSat
import Derived.Test.YtkoifogkdbhpcaaView
import Derived.Test.YtkoifogkdbhpcaaArith
import Derived.Test.YtkoifogkdbhpcaaExp
import Derived.Test.YtkoifogkdbhpcaaOwn
import Derived.WalkKit
import Derived.ProofKit
import Derived.OpenShut
import Derived.WalkLawsBesides
import Derived.Below
import Derived.Deep.QuietTactic
import Derived.BigQuiet
namespace Go.Proofs.Ytkoifogkdbhpcaa
set_option maxRecDepth 20000

open Go.ChangeShapes Go.WideShapes Go.ChangeAt Go.RowKit

set_option linter.unusedVariables false

/-- the greatest of b and the first k members, clamped -/
def topZ (b : Int) (z : List Int) : Nat → Int
  | 0 => b
  | k + 1 => max (topZ b z k) (clampZ (z.getD k 0))

theorem own_below {w w' : World} {B : Nat} {e : TypeId} {v : Value} {n : Nat} {xs : List Value} (h : w.ownsRow B e 1 v n xs) (hb : Below w.heap.size w w') : w'.ownsRow B e 1 v n xs :=
  h.kept (row := none) ⟨hb.os, hb.tape, hb.output, hb.size, fun k hk _ => hb.block k hk⟩ (by
    cases v.ownBlock with
    | none => exact .inl rfl
    | some g => exact .inr (fun e => by cases e))

theorem greatest_call (a0 : Option Addr) (n c0 : Nat) (zs : List Int) (w : World) (h0 : Reads .i64 w a0 n zs) :
    Calls Try.prog 35 #[.slice a0 n c0] w fun e w' => e = .returned (.int .i64 (topZ (-2147483648) zs n)) ∧ w' = w := by
  have hm := h0.max
  go_enter Try.func35, Try.ntmps35
  go_wp2
  go_loopw [3, 7] (fun s i wr => ∃ k : Nat, k ≤ n ∧ i = .int .i64 k ∧ s = .int .i64 (topZ (-2147483648) zs k) ∧ wr = w) (fun _ i _ => n - (intOf i).toNat)
  case atStart => exact ⟨0, Nat.zero_le _, rfl, rfl, rfl⟩
  case round =>
    obtain ⟨k, hk, rfl, rfl, hw⟩ := hrel
    subst hw
    by_cases hlt : k < n
    · obtain ⟨x, rfl⟩ := h0.some_ (by omega)
      have cx := h0.cell x rfl k hlt
      have es : topZ (-2147483648) zs (k + 1) = max (topZ (-2147483648) zs k) (clampZ (zs.getD k 0)) := rfl
      obtain ⟨Z, eZ⟩ : ∃ Z, zs.getD k 0 = Z := ⟨_, rfl⟩
      obtain ⟨S, eS⟩ : ∃ S, topZ (-2147483648) zs k = S := ⟨_, rfl⟩
      rw [eZ] at cx es
      rw [eS] at es ⊢
      obtain ⟨C, eC⟩ : ∃ C, clampZ Z = C := ⟨_, rfl⟩
      have kc := fun W => clamp_call Z W
      rw [eC] at es kc
      have Es : Hid (topZ (-2147483648) zs (k + 1) = max S C) := es
      clear eZ eS es eC
      rcases Int.lt_trichotomy S C with h | h | h
      · go_wp2_with (go_at_call 37; refine (kc _).mono ?_; rintro e w' ⟨rfl, h⟩; obtain rfl := h.symm)
        all_goals
          go_roundw
          case rel => exact ⟨k + 1, by omega, by go_num, by rw [Es.out]; congr 1; omega, trivial⟩
          case measure => simp [intOf]; omega
      · subst h
        go_wp2_with (go_at_call 37; refine (kc _).mono ?_; rintro e w' ⟨rfl, h⟩; obtain rfl := h.symm)
        all_goals
          go_roundw
          case rel => exact ⟨k + 1, by omega, by go_num, by rw [Es.out]; congr 1; omega, trivial⟩
          case measure => simp [intOf]; omega
      · go_wp2_with (go_at_call 37; refine (kc _).mono ?_; rintro e w' ⟨rfl, h⟩; obtain rfl := h.symm)
        all_goals
          go_roundw
          case rel => exact ⟨k + 1, by omega, by go_num, by rw [Es.out]; congr 1; omega, trivial⟩
          case measure => simp [intOf]; omega
    · have e : k = n := by omega
      subst e
      go_wp2
      go_ret
      exact ⟨rfl, rfl⟩

theorem topZ_bounds (b : Int) (z : List Int) (hb : b ≤ 2147483647) (n : Nat) : topZ b z n ≤ 2147483647 ∧ (0 < n → -2147483648 ≤ topZ b z n) ∧ b ≤ topZ b z n := by
  induction n with
  | zero => exact ⟨hb, fun h => by omega, Int.le_refl _⟩
  | succ n ih =>
    have c := clampZ_bounds (z.getD n 0)
    obtain ⟨i1, i2, i3⟩ := ih
    show max (topZ b z n) (clampZ (z.getD n 0)) ≤ _ ∧ (_ → _ ≤ max (topZ b z n) (clampZ (z.getD n 0))) ∧ b ≤ max (topZ b z n) (clampZ (z.getD n 0))
    clear i2
    omega

def powE (z : List Int) (t : Int) (j : Nat) : Int := expZ (clampZ (z.getD j 0) - t)

def sumE (z : List Int) (t : Int) : Nat → Int
  | 0 => 0
  | k + 1 => sumE z t k + powE z t k

theorem powE_bounds (z : List Int) (t : Int) (j : Nat) : 0 ≤ powE z t j ∧ powE z t j ≤ 65536 := expZ_bounds _

theorem sumE_bounds (z : List Int) (t : Int) (k : Nat) : 0 ≤ sumE z t k ∧ sumE z t k ≤ 65536 * (k : Int) := by
  induction k with
  | zero => exact ⟨Int.le_refl _, by simp [sumE]⟩
  | succ k ih =>
    have p := powE_bounds z t k
    show 0 ≤ sumE z t k + powE z t k ∧ sumE z t k + powE z t k ≤ _
    omega

def shareF (z : List Int) (t S : Int) (j : Nat) : Int := divZ (powE z t j) S

theorem wf_divZ (a b : Int) : (Lit.int .i64 (divZ a b)).wf = true := by
  unfold divZ
  split
  · refine WalkArith.wf_i64 ?_
    unfold noughtZ
    repeat' split
    all_goals omega
  · exact wf_clampZ _

def softZ (z : List Int) (n : Nat) : List Int := (List.range n).map (shareF z (topZ (-2147483648) z n) (sumE z (topZ (-2147483648) z n) n))

set_option maxHeartbeats 1000000 in
theorem soft_call (a0 : Option Addr) (n c0 : Nat) (zs : List Int) (w : World) (h0 : Reads .i64 w a0 n zs) (hb : n * 8 ≤ 281474976710656) :
    Calls Try.prog 21 #[.slice a0 n c0] w fun e w' => (∃ a c, e = .returned (.slice a n c) ∧ Reads .i64 w' a n (softZ zs n)) ∧ Below w.heap.size w w' := by
  obtain ⟨i0, hi, hz0, hz1, hz2⟩ := info_parts info2
  have hm := h0.max
  have kg := greatest_call a0 n c0 zs w h0
  have tb := topZ_bounds (-2147483648) zs (by decide) n
  unfold softZ
  obtain ⟨T, eT⟩ : ∃ T, topZ (-2147483648) zs n = T := ⟨_, rfl⟩
  rw [eT] at kg tb ⊢
  clear eT
  obtain ⟨tb1, -, tb0⟩ := tb
  go_enter Try.func21, Try.ntmps21
  go_wp2_with (first
    | (go_at_call 35; refine kg.mono ?_; rintro e w' ⟨rfl, h⟩; obtain rfl := h.symm)
    | (at_make; refine wpList_make_full _ rfl (.tmp 11) (.tmp 11) 29 rfl w.heap.size 2 i0 (.int .i64 0) 1 Try.underlying29 hi hz0 hz1 .i64 .i64 _ _ n rfl rfl rfl rfl (by rw [hz2]; omega) (by unfold maxLen; omega) (Nat.le_refl _) ?_; intro w1 hown hgrow))
  have hbel : Below w.heap.size w w1 := (Below.refl _ _).grown hgrow (Nat.le_refl _) (fun k h => by cases h)
  go_wp2
  go_loopw [5, 15] (fun s i wr => ∃ k : Nat, k ≤ n ∧ i = .int .i64 k ∧ s = .int .i64 (sumE zs T k) ∧ Below w.heap.size w wr ∧ ∃ cs, wr.ownsRow w.heap.size 2 1 (.slice (some ⟨w.heap.size, 0, none⟩) n n) n cs ∧ ∀ j, j < k → cs[j]? = some (.int .i64 (powE zs T j))) (fun _ i _ => n - (intOf i).toNat)
  case atStart => exact ⟨0, Nat.zero_le _, rfl, rfl, hbel, _, hown, fun j hj => by omega⟩
  case round =>
    obtain ⟨k, hk, rfl, rfl, hbr, cs, ho, hcs⟩ := hrel
    by_cases hlt : k < n
    · have hr := h0.below hbr
      obtain ⟨x, rfl⟩ := h0.some_ (by omega)
      have cx := hr.cell x rfl k hlt
      have hlen := own_length ho
      have sb := sumE_bounds zs T k
      have pb := powE_bounds zs T k
      have ep : powE zs T k = expZ (clampZ (zs.getD k 0) - T) := rfl
      have es : sumE zs T (k + 1) = sumE zs T k + powE zs T k := rfl
      have cb := clampZ_bounds (zs.getD k 0)
      have kc := fun W => clamp_call (zs.getD k 0) W
      have ke := fun W => exp_call (clampZ (zs.getD k 0) - T) W
      obtain ⟨E, eE⟩ : ∃ E, powE zs T k = E := ⟨_, rfl⟩
      obtain ⟨S, eS⟩ : ∃ S, sumE zs T k = S := ⟨_, rfl⟩
      rw [← ep] at ke
      rw [eE] at pb es ke
      rw [eS] at sb es ⊢
      have step := fun (W : World) (hs : W.ownsRow w.heap.size 2 1 (.slice (some ⟨w.heap.size, 0, none⟩) n n) n cs) => And.intro (hs.stored k (.int .i64 E)).1 (set_step (F := fun j => Value.int .i64 (powE zs T j)) hlen hlt (show Value.int .i64 E = .int .i64 (powE zs T k) by rw [eE]) hcs)
      obtain ⟨C, eC⟩ : ∃ C, clampZ (zs.getD k 0) = C := ⟨_, rfl⟩
      rw [eC] at cb kc ke
      obtain ⟨X, eX⟩ : ∃ X, zs.getD k 0 = X := ⟨_, rfl⟩
      rw [eX] at cx kc
      obtain ⟨u, hu⟩ : ∃ u, cs[k]? = some u := ⟨cs[k], by simp [hlen, hlt]⟩
      obtain ⟨s0, s1⟩ := sb
      obtain ⟨p0, p1⟩ := pb
      obtain ⟨q0, q1⟩ := cb
      have Es : Hid (sumE zs T (k + 1) = S + E) := es
      clear es eE eS eC eX ep hr hown hgrow hbel hi hz0 hz1 hz2 kg
      go_wp2_with (first
        | (go_at_call 37; refine (kc _).mono ?_; rintro e w' ⟨rfl, h⟩; obtain rfl := h.symm)
        | (go_at_call 36; refine (ke _).mono ?_; rintro e W2 ⟨rfl, hb2⟩
           have ho2 := own_below ho hb2
           have cell2 : W2.cell? ⟨w.heap.size, k, none⟩ = some u := (ho2.cellAt k (by omega)).trans hu
           have froz2 := ho2.frozenAt k
           have st2 := step W2 ho2
           have cell3 : (W2.setCell ⟨w.heap.size, k, none⟩ (.int .i64 E)).cell? ⟨w.heap.size, k, none⟩ = some (.int .i64 E) := by
             rw [st2.1.cellAt k (by omega)]; simp [hlen, hlt]
           have R : Hid (Below w.heap.size w (W2.setCell ⟨w.heap.size, k, none⟩ (.int .i64 E)) ∧ ∃ cs', (W2.setCell ⟨w.heap.size, k, none⟩ (.int .i64 E)).ownsRow w.heap.size 2 1 (.slice (some ⟨w.heap.size, 0, none⟩) n n) n cs' ∧ ∀ j, j < k + 1 → cs'[j]? = some (.int .i64 (powE zs T j))) :=
             ⟨(below_then hbr hb2).setCell (Nat.le_refl _) _, _, st2.1, st2.2⟩
           clear ho2 st2 hb2))
      go_roundw
      case rel => exact ⟨k + 1, by omega, by go_num, by rw [Es.out], R.out⟩
      case measure => simp [intOf]; omega
    · have e : k = n := by omega
      subst e
      rename World => W1
      have sb := sumE_bounds zs T k
      obtain ⟨S, eS⟩ : ∃ S, sumE zs T k = S := ⟨_, rfl⟩
      have ES : Hid (sumE zs T k = S) := eS
      rw [eS] at sb ⊢
      clear eS
      have wS : (Lit.int .i64 S).wf = true := WalkArith.wf_i64 ⟨by omega, by omega⟩
      go_wp2
      go_loopw [38] (fun i wr => ∃ j : Nat, j ≤ k ∧ i = .int .i64 j ∧ Below w.heap.size w wr ∧ ∃ ds, wr.ownsRow w.heap.size 2 1 (.slice (some ⟨w.heap.size, 0, none⟩) k k) k ds ∧ (∀ i, i < j → ds[i]? = some (.int .i64 (shareF zs T S i))) ∧ ∀ i, j ≤ i → i < k → ds[i]? = some (.int .i64 (powE zs T i))) (fun i _ => k - (intOf i).toNat)
      case atStart => exact ⟨0, Nat.zero_le _, rfl, hbr, _, ho, fun j hj => by omega, fun i _ hi => hcs i hi⟩
      case round =>
        clear hcs ho hbr
        obtain ⟨j, hj, rfl, hbr, ds, ho, h1, h2⟩ := hrel
        by_cases hlt : j < k
        · have hlen := own_length ho
          have cell : wr.cell? ⟨w.heap.size, j, none⟩ = some (.int .i64 (powE zs T j)) := (ho.cellAt j (by omega)).trans (h2 j (Nat.le_refl _) hlt)
          have froz := ho.frozenAt j
          have pb := powE_bounds zs T j
          have kd := fun (w' : (Lit.int .i64 (powE zs T j)).wf = true) W => div_call (powE zs T j) S w' wS W
          have ef : divZ (powE zs T j) S = shareF zs T S j := rfl
          rw [ef] at kd
          have R : Hid (Below w.heap.size w (wr.setCell ⟨w.heap.size, j, none⟩ (.int .i64 (shareF zs T S j))) ∧ ∃ ds', (wr.setCell ⟨w.heap.size, j, none⟩ (.int .i64 (shareF zs T S j))).ownsRow w.heap.size 2 1 (.slice (some ⟨w.heap.size, 0, none⟩) k k) k ds' ∧ (∀ i, i < j + 1 → ds'[i]? = some (.int .i64 (shareF zs T S i))) ∧ ∀ i, j + 1 ≤ i → i < k → ds'[i]? = some (.int .i64 (powE zs T i))) :=
            ⟨hbr.setCell (Nat.le_refl _) _, _, (ho.stored j _).1, set_step (F := fun i => Value.int .i64 (shareF zs T S i)) hlen hlt rfl h1, fun i h hi => by rw [List.getElem?_set_ne (by omega)]; exact h2 i (by omega) hi⟩
          obtain ⟨E, eE⟩ : ∃ E, powE zs T j = E := ⟨_, rfl⟩
          obtain ⟨G, eG⟩ : ∃ G, shareF zs T S j = G := ⟨_, rfl⟩
          rw [eE] at cell pb kd
          rw [eG] at kd R
          have wE : (Lit.int .i64 E).wf = true := WalkArith.wf_i64 ⟨by omega, by omega⟩
          clear eE eG ef h1 h2 ho hlen hbr hown hgrow hbel hi hz0 hz1 hz2 kg
          go_wp2_with (go_at_call 38; refine (kd wE _).mono ?_; rintro e w' ⟨rfl, h⟩; obtain rfl := h.symm)
          go_roundw
          case rel => exact ⟨j + 1, by omega, by go_num, R.out⟩
          case measure => simp [intOf]; omega
        · have e : j = k := by omega
          subst e
          have fin := own_reads_at (zs := (List.range j).map (shareF zs T (sumE zs T j))) ho (by simp) (fun z hz => by obtain ⟨y, _, rfl⟩ := List.mem_map.1 hz; exact wf_divZ _ _) (fun i hi => by rw [h1 i hi, ES.out]; simp [hi])
          clear h1 h2 ho
          go_wp2
          go_ret
          exact ⟨⟨_, _, rfl, fin⟩, hbr⟩

end Go.Proofs.Ytkoifogkdbhpcaa
