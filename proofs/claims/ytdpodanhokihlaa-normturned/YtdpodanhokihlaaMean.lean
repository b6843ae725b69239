/- Rows of rows, and what the program's Mean and its helpers give back: contracts of the calls. -/
import Derived.Test.YtdpodanhokihlaaRows
import Derived.Test.YtdpodanhokihlaaSat
import Derived.Test.YtdpodanhokihlaaAdds
import Derived.Test.YtdpodanhokihlaaView
import Derived.Test.YtdpodanhokihlaaOwn
import Derived.WalkKit
import Derived.ProofKit
import Derived.OpenShut
import Derived.Below
import Derived.WalkLawsBesides
import Derived.Deep.RegionWith
import Derived.Deep.QuietTactic
import Derived.BigQuiet
namespace Go.Proofs.Ytdpodanhokihlaa
open Go.ChangeShapes Go.WideShapes Go.ChangeAt Go.RowKit
set_option linter.unusedVariables false

/-- the first n cells from a on are slices, row r reading as the numbers R r -/
structure Grid (w : World) (a : Option Addr) (n : Nat) (A : Nat → Option Addr) (C : Nat → Nat) (R : Nat → List Int) : Prop where
  max : n ≤ 9223372036854775807
  some_ : 0 < n → ∃ x, a = some x
  cell : ∀ x, a = some x → ∀ r, r < n → w.cell? (x.add r) = some (.slice (A r) (R r).length (C r))
  row : ∀ r, r < n → Reads .i64 w (A r) (R r).length (R r)

theorem Grid.below {w w' : World} {a : Option Addr} {n : Nat} {A : Nat → Option Addr} {C : Nat → Nat} {R : Nat → List Int} (h : Grid w a n A C R) (hb : Below w.heap.size w w') : Grid w' a n A C R :=
  ⟨h.max, h.some_, fun x hx r hr => (hb.cell (World.block_lt_of_cell? w _ (h.cell x hx r hr))).trans (h.cell x hx r hr), fun r hr => (h.row r hr).below hb⟩

theorem Grid.first {w : World} {x : Addr} {n : Nat} {A : Nat → Option Addr} {C : Nat → Nat} {R : Nat → List Int} (h : Grid w (some x) n A C R) (hn : 0 < n) : w.cell? x = some (.slice (A 0) (R 0).length (C 0)) := by
  have := h.cell x rfl 0 hn
  rwa [Addr.add_zero'] at this

/-- there are rows, all of one length -/
def Even (n : Nat) (R : Nat → List Int) : Prop := 0 < n ∧ ∀ r, r < n → (R r).length = (R 0).length

theorem sameLengths_yes (a0 : Option Addr) (n c0 : Nat) (A : Nat → Option Addr) (C : Nat → Nat) (R : Nat → List Int) (w : World) (h0 : Grid w a0 n A C R) (he : Even n R) :
    Calls Try.prog 32 #[.slice a0 n c0] w fun e w' => e = .returned (.bool true) ∧ ∃ m, w' = w.drewN m := by
  have hm := h0.max
  obtain ⟨hn, he⟩ := he
  go_enter Try.func32, Try.ntmps32
  go_wp2
  go_loopw [6] (fun i wr => ∃ k : Nat, k ≤ n ∧ i = .int .i64 k ∧ ∃ m, wr = w.drewN m) (fun i _ => n - (intOf i).toNat)
  case atStart => exact ⟨0, Nat.zero_le _, rfl, 0, rfl⟩
  case round =>
    obtain ⟨k, hk, rfl, m, hw⟩ := hrel
    by_cases hlt : k < n
    · obtain ⟨x, rfl⟩ := h0.some_ (by omega)
      have cx : wr.cell? (x.add k) = some (.slice (A k) (R k).length (C k)) := by rw [hw]; exact h0.cell x rfl k hlt
      have c0' : wr.cell? x = some (.slice (A 0) (R 0).length (C 0)) := by rw [hw]; exact h0.first hn
      have Hw : Hid (wr = w.drewN m) := hw
      clear hw
      rw [he k hlt] at cx
      obtain ⟨d, ed⟩ : ∃ d, (R 0).length = d := ⟨_, rfl⟩
      rw [ed] at cx c0'
      clear ed he h0
      go_wp2
      go_quiet (fail)
      go_wp2
      go_roundw
      case rel => exact ⟨k + 1, by omega, by go_num, _, by rw [Hw.out, World.drewN_drewN]⟩
      case measure => simp [intOf]; omega
    · have e : k = n := by omega
      subst e
      subst hw
      go_wp2
      go_ret
      exact ⟨rfl, _, rfl⟩

theorem sameLengths_no (a0 : Option Addr) (n c0 : Nat) (A : Nat → Option Addr) (C : Nat → Nat) (R : Nat → List Int) (w : World) (h0 : Grid w a0 n A C R) (he : ¬Even n R) :
    Calls Try.prog 32 #[.slice a0 n c0] w fun e w' => e = .returned (.bool false) ∧ ∃ m, w' = w.drewN m := by
  have hm := h0.max
  go_enter Try.func32, Try.ntmps32
  go_wp2
  go_loopw [6] (fun i wr => ∃ k : Nat, k ≤ n ∧ i = .int .i64 k ∧ (∀ r, r < k → (R r).length = (R 0).length) ∧ ∃ m, wr = w.drewN m) (fun i _ => n - (intOf i).toNat)
  case atStart => exact ⟨0, Nat.zero_le _, rfl, fun r h => by omega, 0, rfl⟩
  case round =>
    obtain ⟨k, hk, rfl, hs, m, hw⟩ := hrel
    by_cases hlt : k < n
    · obtain ⟨x, rfl⟩ := h0.some_ (by omega)
      have cx : wr.cell? (x.add k) = some (.slice (A k) (R k).length (C k)) := by rw [hw]; exact h0.cell x rfl k hlt
      have c0' : wr.cell? x = some (.slice (A 0) (R 0).length (C 0)) := by rw [hw]; exact h0.first (by omega)
      have hn : 0 < n := by omega
      have Hw : Hid (wr = w.drewN m) := hw
      clear hw
      by_cases hd : (R k).length = (R 0).length
      · have Hs : Hid (∀ r, r < k + 1 → (R r).length = (R 0).length) := fun r hr => by
          by_cases e : r = k
          · rw [e, hd]
          · exact hs r (by omega)
        rw [hd] at cx
        clear hs hd he
        obtain ⟨d, ed⟩ : ∃ d, (R 0).length = d := ⟨_, rfl⟩
        rw [ed] at cx c0'
        clear ed h0
        go_wp2
        go_quiet (fail)
        go_wp2
        go_roundw
        case rel => exact ⟨k + 1, by omega, by go_num, Hs.out, _, by rw [Hw.out, World.drewN_drewN]⟩
        case measure => simp [intOf]; omega
      · clear hs he h0
        obtain ⟨d, ed⟩ : ∃ d, (R 0).length = d := ⟨_, rfl⟩
        obtain ⟨g, eg⟩ : ∃ g, (R k).length = g := ⟨_, rfl⟩
        rw [ed] at c0' hd
        rw [eg] at cx hd
        have e' : ((g : Int) == (d : Int)) = false := by simp; omega
        clear ed eg
        go_wp2
        go_quiet (fail)
        go_wp2
        go_ret
        exact ⟨rfl, _, by rw [Hw.out, World.drewN_drewN]⟩
    · have e : k = n := by omega
      subst e
      subst hw
      have z : k = 0 := by
        by_cases z : k = 0
        · exact z
        · exact absurd ⟨by omega, hs⟩ he
      have z' : ¬ (0 : Int) < (k : Int) := by omega
      clear he hs h0
      subst z
      go_wp2
      go_ret
      exact ⟨rfl, _, rfl⟩

/-- from nought on, place j of the first k rows, clamped, added one behind the other -/
def colZ (R : Nat → List Int) (j : Nat) : Nat → Int
  | 0 => 0
  | k + 1 => addZ (colZ R j k) (clampZ ((R k).getD j 0))

theorem wf_colZ (R : Nat → List Int) (j k : Nat) : (Lit.int .i64 (colZ R j k)).wf = true := by
  cases k with
  | zero => show (Lit.int .i64 0).wf = true; decide
  | succ k => exact wf_addZ _ _

set_option maxHeartbeats 2000000 in
theorem addRow_call (w0 w : World) (g : Nat) (d : Nat) (F : Nat → Int) (hF : ∀ j, (Lit.int .i64 (F j)).wf = true) (cs : List Value) (a : Option Addr) (c : Nat) (zs : List Int) (hb : Below w0.heap.size w0 w) (h0 : Reads .i64 w0 a d zs) (hg : w0.heap.size ≤ g)
    (ho : w.ownsRow w0.heap.size 2 1 (.slice (some ⟨g, 0, none⟩) d d) d cs) (hc : ∀ j, j < d → cs[j]? = some (.int .i64 (F j))) :
    Calls Try.prog 33 #[.slice (some ⟨g, 0, none⟩) d d, .slice a d c] w fun e w' => e = .returned (.tuple #[]) ∧ Below w0.heap.size w0 w' ∧ ∃ cs', w'.ownsRow w0.heap.size 2 1 (.slice (some ⟨g, 0, none⟩) d d) d cs' ∧ ∀ j, j < d → cs'[j]? = some (.int .i64 (addZ (F j) (clampZ (zs.getD j 0)))) := by
  have hm := h0.max
  go_enter Try.func33, Try.ntmps33
  go_wp2
  go_loopw [7] (fun i wr => ∃ k : Nat, k ≤ d ∧ i = .int .i64 k ∧ Below w0.heap.size w0 wr ∧ ∃ cs, wr.ownsRow w0.heap.size 2 1 (.slice (some ⟨g, 0, none⟩) d d) d cs ∧ (∀ j, j < k → cs[j]? = some (.int .i64 (addZ (F j) (clampZ (zs.getD j 0))))) ∧ ∀ j, k ≤ j → j < d → cs[j]? = some (.int .i64 (F j))) (fun i _ => d - (intOf i).toNat)
  case atStart => exact ⟨0, Nat.zero_le _, rfl, hb, cs, ho, fun j hj => by omega, fun j _ hj => hc j hj⟩
  case round =>
    clear ho hc hb
    obtain ⟨k, hk, rfl, hbr, ds, ho, h1, h2⟩ := hrel
    by_cases hlt : k < d
    · obtain ⟨x, rfl⟩ := h0.some_ (by omega)
      have cx := (h0.below hbr).cell x rfl k hlt
      have hlen := own_length ho
      have cell : wr.cell? ⟨g, k, none⟩ = some (.int .i64 (F k)) := (ho.cellAt k (by omega)).trans (h2 k (Nat.le_refl _) hlt)
      have froz := ho.frozenAt k
      have wf := hF k
      obtain ⟨X, eX⟩ : ∃ X, zs.getD k 0 = X := ⟨_, rfl⟩
      obtain ⟨Y, eY⟩ : ∃ Y, F k = Y := ⟨_, rfl⟩
      have R : Hid (Below w0.heap.size w0 (wr.setCell ⟨g, k, none⟩ (.int .i64 (addZ Y (clampZ X)))) ∧ ∃ ds', (wr.setCell ⟨g, k, none⟩ (.int .i64 (addZ Y (clampZ X)))).ownsRow w0.heap.size 2 1 (.slice (some ⟨g, 0, none⟩) d d) d ds' ∧ (∀ j, j < k + 1 → ds'[j]? = some (.int .i64 (addZ (F j) (clampZ (zs.getD j 0))))) ∧ ∀ j, k + 1 ≤ j → j < d → ds'[j]? = some (.int .i64 (F j))) :=
        ⟨hbr.setCell hg _, _, (ho.stored k _).1, set_step (F := fun j => Value.int .i64 (addZ (F j) (clampZ (zs.getD j 0)))) hlen hlt (by rw [eX, eY]) h1, fun j h hj => by rw [List.getElem?_set_ne (by omega)]; exact h2 j (by omega) hj⟩
      rw [eX] at cx
      rw [eY] at cell wf
      have wc := wf_clampZ X
      clear eX eY h1 h2 ho hlen hbr h0 hF
      go_wp2
      go_region_with (first
        | (go_at_call 28; refine (clamp_call _ _).mono ?_; rintro e w' ⟨rfl, rfl⟩)
        | (go_at_call 35; refine (add_call _ _ wf wc _).mono ?_; rintro e w' ⟨rfl, rfl⟩))
      all_goals
        go_wp2
        go_roundw
        case rel => exact ⟨k + 1, by omega, by go_num, R.out.1.drew, R.out.2⟩
        case measure => simp [intOf]; omega
    · have e : k = d := by omega
      subst e
      have fin : Hid (∃ cs', wr.ownsRow w0.heap.size 2 1 (.slice (some ⟨g, 0, none⟩) k k) k cs' ∧ ∀ j, j < k → cs'[j]? = some (.int .i64 (addZ (F j) (clampZ (zs.getD j 0))))) := ⟨ds, ho, h1⟩
      clear ho h1 h2
      go_wp2
      go_end0
      exact ⟨rfl, hbr, fin.out⟩

def meanF (R : Nat → List Int) (n : Nat) (j : Nat) : Int := clampZ ((colZ R j n).tdiv n)

theorem tdiv_up (S : Int) (n : Nat) (h : 0 ≤ S) : 0 ≤ S.tdiv n := Int.tdiv_nonneg h (Int.natCast_nonneg n)

theorem tdiv_down (S : Int) (n : Nat) (h : S ≤ 0) : S.tdiv n ≤ 0 := by
  have := tdiv_up (-S) n (by omega)
  rw [Int.neg_tdiv] at this
  omega

theorem tdiv_within (S : Int) (n : Nat) (h0 : -9223372036854775808 ≤ S) (h1 : S ≤ 9223372036854775807) : -9223372036854775808 ≤ S.tdiv n ∧ S.tdiv n ≤ 9223372036854775807 := by
  have a : (S.tdiv n).natAbs ≤ S.natAbs := by
    rw [Int.natAbs_tdiv]
    exact Nat.div_le_self _ _
  by_cases h : 0 ≤ S
  · have := tdiv_up S n h
    omega
  · have := tdiv_down S n (by omega)
    omega

set_option maxHeartbeats 1000000 in
theorem mean_even (a0 : Option Addr) (n c0 : Nat) (A : Nat → Option Addr) (C : Nat → Nat) (R : Nat → List Int) (w : World) (h0 : Grid w a0 n A C R) (he : Even n R) (hb : (R 0).length * 8 ≤ 281474976710656) :
    Calls Try.prog 14 #[.slice a0 n c0] w fun e w' => (∃ a c, e = .returned (.tuple #[.slice a (R 0).length c, .int .i64 0]) ∧ Reads .i64 w' a (R 0).length ((List.range (R 0).length).map (meanF R n))) ∧ Below w.heap.size w w' := by
  obtain ⟨i0, hi, hz0, hz1, hz2⟩ := info_parts info2
  have hm := h0.max
  have ks := sameLengths_yes a0 n c0 A C R w h0 he
  obtain ⟨hn, he⟩ := he
  have hd := (h0.row 0 hn).max
  have row : ∀ r, r < n → Reads .i64 w (A r) (R 0).length (R r) := fun r hr => by have := h0.row r hr; rwa [he r hr] at this
  have cel : ∀ x, a0 = some x → ∀ r, r < n → w.cell? (x.add r) = some (.slice (A r) (R 0).length (C r)) := fun x hx r hr => by have := h0.cell x hx r hr; rwa [he r hr] at this
  obtain ⟨x, rfl⟩ := h0.some_ hn
  have cel := cel x rfl
  obtain ⟨d, ed⟩ : ∃ d, (R 0).length = d := ⟨_, rfl⟩
  rw [ed] at hd row cel hb ⊢
  clear ed he h0
  go_enter Try.func14, Try.ntmps14
  go_wp2_with (first
    | (go_at_call 32; refine ks.mono ?_; rintro e W1 ⟨rfl, hq⟩; have hb1 := below_drew (Below.refl w.heap.size w) hq; have cel0 : W1.cell? x = some (.slice (A 0) d (C 0)) := (by obtain ⟨m, rfl⟩ := hq; rw [← Addr.add_zero' x]; exact cel 0 hn); clear hq ks)
    | (at_make; (refine wpList_make_full _ rfl (.tmp 13) (.tmp 13) 22 rfl w.heap.size 2 i0 (.int .i64 0) 1 Try.underlying22 hi hz0 hz1 .i64 .i64 _ _ d rfl rfl rfl rfl (by rw [hz2]; omega) (by unfold maxLen; omega) hb1.size ?_; intro w1 hown hgrow)))
  have hbel : Below w.heap.size w w1 := hb1.grown hgrow hb1.size (fun k h => by cases h)
  have hg := hb1.size
  obtain ⟨g, eg⟩ : ∃ g, W1.heap.size = g := ⟨_, rfl⟩
  rw [eg] at hown hg ⊢
  clear eg hgrow cel0 hb1
  have start : ∀ j, j < d → (madeCells (Value.int .i64 0).cells (d * 1)).toList[j]? = some (.int .i64 0) := fun j hj => by
    rw [show (Value.int .i64 0).cells = #[.int .i64 0] from rfl, toList_madeCells_one]
    simp [hj]
  go_wp2
  go_loopw [17] (fun i wr => ∃ k : Nat, k ≤ n ∧ i = .int .i64 k ∧ Below w.heap.size w wr ∧ ∃ cs, wr.ownsRow w.heap.size 2 1 (.slice (some ⟨g, 0, none⟩) d d) d cs ∧ ∀ j, j < d → cs[j]? = some (.int .i64 (colZ R j k))) (fun i _ => n - (intOf i).toNat)
  case atStart => exact ⟨0, Nat.zero_le _, rfl, hbel, _, hown, start⟩
  case round =>
    clear hown start hbel
    obtain ⟨k, hk, rfl, hbr, cs, ho, hcs⟩ := hrel
    by_cases hlt : k < n
    · have cx : wr.cell? (x.add k) = some (.slice (A k) d (C k)) := (hbr.cell (World.block_lt_of_cell? w _ (cel k hlt))).trans (cel k hlt)
      have ka := addRow_call w wr g d (fun j => colZ R j k) (fun j => wf_colZ R j k) cs (A k) (C k) (R k) hbr (row k hlt) hg ho hcs
      have Ka := ka
      clear ka ho hcs row cel hi hz0 hz1 hz2
      go_wp2_with (go_at_call 33; refine Ka.mono ?_; rintro e W2 ⟨rfl, R2⟩; have R2' : Hid _ := R2; clear R2)
      go_roundw
      case rel =>
        obtain ⟨b2, cs2, o2, c2⟩ := R2'.out
        exact ⟨k + 1, by omega, by go_num, b2, cs2, o2, c2⟩
      case measure => simp [intOf]; omega
    · have e : k = n := by omega
      subst e
      rename World => W2
      have kz : ((k : Int) == 0) = false := by simp; omega
      clear cel row
      go_wp2
      go_loopw [29] (fun i wr => ∃ j : Nat, j ≤ d ∧ i = .int .i64 j ∧ Below w.heap.size w wr ∧ ∃ ds, wr.ownsRow w.heap.size 2 1 (.slice (some ⟨g, 0, none⟩) d d) d ds ∧ (∀ i, i < j → ds[i]? = some (.int .i64 (meanF R k i))) ∧ ∀ i, j ≤ i → i < d → ds[i]? = some (.int .i64 (colZ R i k))) (fun i _ => d - (intOf i).toNat)
      case atStart => exact ⟨0, Nat.zero_le _, rfl, hbr, _, ho, fun j hj => by omega, fun i _ hi => hcs i hi⟩
      case round =>
        clear hcs ho hbr
        obtain ⟨j, hj, rfl, hbr, ds, ho, h1, h2⟩ := hrel
        by_cases hlt : j < d
        · have hlen := own_length ho
          have cell : wr.cell? ⟨g, j, none⟩ = some (.int .i64 (colZ R j k)) := (ho.cellAt j (by omega)).trans (h2 j (Nat.le_refl _) hlt)
          have froz := ho.frozenAt j
          have wc := bounds_i64 (wf_colZ R j k)
          have tb := tdiv_within (colZ R j k) k wc.1 wc.2
          have R' : Hid (Below w.heap.size w (wr.setCell ⟨g, j, none⟩ (.int .i64 (clampZ ((colZ R j k).tdiv k)))) ∧ ∃ ds', (wr.setCell ⟨g, j, none⟩ (.int .i64 (clampZ ((colZ R j k).tdiv k)))).ownsRow w.heap.size 2 1 (.slice (some ⟨g, 0, none⟩) d d) d ds' ∧ (∀ i, i < j + 1 → ds'[i]? = some (.int .i64 (meanF R k i))) ∧ ∀ i, j + 1 ≤ i → i < d → ds'[i]? = some (.int .i64 (colZ R i k))) :=
            ⟨hbr.setCell hg _, _, (ho.stored j _).1, set_step (F := fun i => Value.int .i64 (meanF R k i)) hlen hlt rfl h1, fun i h hi => by rw [List.getElem?_set_ne (by omega)]; exact h2 i (by omega) hi⟩
          obtain ⟨S, eS⟩ : ∃ S, colZ R j k = S := ⟨_, rfl⟩
          rw [eS] at cell wc tb R'
          clear eS h1 h2 ho hlen hbr hi hz0 hz1 hz2
          obtain ⟨t0, t1⟩ := tb
          go_wp2_with (go_at_call 28; refine (clamp_call _ _).mono ?_; rintro e w' ⟨rfl, h⟩; obtain rfl := h.symm)
          go_roundw
          case rel => exact ⟨j + 1, by omega, by go_num, R'.out⟩
          case measure => simp [intOf]; omega
        · have e : j = d := by omega
          subst e
          have fin := own_reads_at (zs := (List.range j).map (meanF R k)) ho (by simp) (fun z hz => by obtain ⟨y, _, rfl⟩ := List.mem_map.1 hz; exact wf_clampZ _) (fun i hi => by rw [h1 i hi]; simp [hi])
          clear h1 h2 ho
          go_wp2
          go_ret2
          exact ⟨⟨_, _, rfl, fin⟩, hbr⟩

theorem mean_uneven (a0 : Option Addr) (n c0 : Nat) (A : Nat → Option Addr) (C : Nat → Nat) (R : Nat → List Int) (w : World) (h0 : Grid w a0 n A C R) (he : ¬Even n R) :
    Calls Try.prog 14 #[.slice a0 n c0] w fun e w' => e = .returned (.tuple #[.slice none 0 0, .int .i64 21]) ∧ Below w.heap.size w w' := by
  have ks := sameLengths_no a0 n c0 A C R w h0 he
  go_enter Try.func14, Try.ntmps14
  go_wp2_with (go_at_call 32; refine ks.mono ?_; rintro e W1 ⟨rfl, hq⟩; have hb1 := below_drew (Below.refl w.heap.size w) hq; clear hq)
  go_ret2
  exact ⟨rfl, hb1⟩

open Classical in
theorem mean_call (a0 : Option Addr) (n c0 : Nat) (A : Nat → Option Addr) (C : Nat → Nat) (R : Nat → List Int) (w : World) (h0 : Grid w a0 n A C R) (hb : Even n R → (R 0).length * 8 ≤ 281474976710656) :
    Calls Try.prog 14 #[.slice a0 n c0] w fun e w' => (∃ a m c, e = .returned (.tuple #[.slice a m c, .int .i64 (if Even n R then 0 else 21)]) ∧ Reads .i64 w' a m (if Even n R then (List.range (R 0).length).map (meanF R n) else [])) ∧ Below w.heap.size w w' := by
  by_cases e : Even n R
  · simp only [if_pos e]
    exact (mean_even _ _ _ _ _ _ _ h0 e (hb e)).mono fun e w' ⟨⟨a, c, he, hr⟩, hw⟩ => ⟨⟨a, _, c, he, hr⟩, hw⟩
  · simp only [if_neg e]
    exact (mean_uneven _ _ _ _ _ _ _ h0 e).mono fun e w' ⟨he, hw⟩ => ⟨⟨none, 0, 0, he, Reads.nil _ _⟩, hw⟩

end Go.Proofs.Ytdpodanhokihlaa
