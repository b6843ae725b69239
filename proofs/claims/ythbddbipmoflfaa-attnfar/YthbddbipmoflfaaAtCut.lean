/- The parts of rows: contracts of both sides. -/
import Derived.Test.YthbddbipmoflfaaRows
import Derived.Test.YthbddbipmoflfaaView
import Derived.Test.YthbddbipmoflfaaOwn
import Derived.Test.YthbddbipmoflfaaWhere
import Derived.Test.YthbddbipmoflfaaWorks
import Derived.Test.YthbddbipmoflfaaSoft
import Derived.Test.YthbddbipmoflfaaMean
import Derived.Test.YthbddbipmoflfaaGrids
import Derived.Test.YthbddbipmoflfaaAtPlain
import Derived.WalkKit
import Derived.ProofKit
import Derived.OpenShut
import Derived.Below
import Derived.WalkLawsBesides
import Derived.Deep.QuietTactic
import Derived.BigQuiet
namespace Go.Proofs.Ythbddbipmoflfaa
open Go.ChangeShapes Go.WideShapes Go.ChangeAt Go.RowKit
set_option linter.unusedVariables false

/-- the part of d members from f on, of each row -/
def cutR (R : Nat → List Int) (f d : Nat) (r : Nat) : List Int := ((R r).drop f).take d
def cutA (A : Nat → Option Addr) (f : Nat) (r : Nat) : Option Addr := (A r).map fun x => x.add f

theorem cutR_length (R : Nat → List Int) (f d r : Nat) (h : f + d ≤ (R r).length) : (cutR R f d r).length = d := by
  unfold cutR
  rw [List.length_take, List.length_drop]
  omega

theorem part_call (x : Addr) (n c f d B : Nat) (w : World) (hd : 0 < d) (hn : f + d ≤ n) (hc : n ≤ c) (hm : n ≤ 9223372036854775807) (hB : w.cell? ⟨B, 0, none⟩ = some (.int .i64 d)) :
    Calls Try.prog 30 #[.slice (some x) n c, .int .i64 f, .pointer (some ⟨B, 0, none⟩)] w fun e w' => e = .returned (.slice (some (x.add f)) d d) ∧ w' = w := by
  obtain ⟨Q, eQ⟩ : ∃ Q, f + d = Q := ⟨_, rfl⟩
  have eQ' : (f : Int) + (d : Int) = (Q : Int) := by omega
  have eQ2 : Q - f = d := by omega
  have hQ : Q ≤ n := by omega
  have hP : f < Q := by omega
  clear eQ
  go_enter Try.func30, Try.ntmps30
  go_wp2
  go_ret
  exact ⟨rfl, rfl⟩

/-- cells that hold the parts of rows are a row of rows -/
theorem cut_grid {w : World} {a : Option Addr} {n : Nat} {A : Nat → Option Addr} {C : Nat → Nat} {R : Nat → List Int} (h : Grid w a n A C R) {f d : Nat} (hd : 0 < d) (hr : ∀ r, r < n → f + d ≤ (R r).length)
    {b : Option Addr} (hb : 0 < n → ∃ x, b = some x) {D : Nat → Nat} (hc : ∀ x, b = some x → ∀ r, r < n → w.cell? (x.add r) = some (.slice (cutA A f r) d (D r))) : Grid w b n (cutA A f) D (cutR R f d) := by
  refine ⟨h.max, hb, fun x hx r hr' => ?_, fun r hr' => ?_⟩
  · rw [cutR_length R f d r (hr r hr')]
    exact hc x hx r hr'
  · have rr := h.row r hr'
    have h1 := hr r hr'
    obtain ⟨x, hx⟩ := rr.some_ (by omega)
    rw [cutR_length R f d r h1]
    unfold cutA cutR
    rw [hx] at rr ⊢
    exact rr.cut f d h1

theorem cutEach_call (a : Option Addr) (n c : Nat) (A : Nat → Option Addr) (C : Nat → Nat) (R : Nat → List Int) (f d B : Nat) (w : World) (h : Grid w a n A C R) (hC : ∀ r, r < n → (R r).length ≤ C r) (hd : 0 < d) (hr : ∀ r, r < n → f + d ≤ (R r).length)
    (hB : w.cell? ⟨B, 0, none⟩ = some (.int .i64 d)) (hb : n * 24 ≤ 140737488355328) :
    Calls Try.prog 31 #[.slice a n c, .int .i64 f, .func (.func 30) #[] #[.pointer (some ⟨B, 0, none⟩)]] w fun e w' => (∃ x k, e = .returned (.slice (some x) n k) ∧ Grid w' (some x) n (cutA A f) (fun _ => d) (cutR R f d)) ∧ Below w.heap.size w w' := by
  obtain ⟨i0, hi, hz0, hz1, hz2⟩ := info_parts info22
  have hm := h.max
  go_enter Try.func31, Try.ntmps31
  go_wp2_with (first
    | (at_make; refine wpList_make_full _ rfl (.tmp 11) (.tmp 11) 23 rfl w.heap.size 22 i0 (.slice none 0 0) 1 Try.underlying23 hi hz0 hz1 .i64 .i64 _ _ n rfl rfl rfl rfl (by rw [hz2]; omega) (by unfold maxLen; omega) (Nat.le_refl _) ?_; intro w1 hown hgrow))
  have hbel : Below w.heap.size w w1 := (Below.refl _ _).grown hgrow (Nat.le_refl _) (fun k h => by cases h)
  clear hgrow
  go_wp2
  go_loopw [15] (fun i wr => ∃ k : Nat, k ≤ n ∧ i = .int .i64 k ∧ Below w.heap.size w wr ∧ ∃ cs, wr.ownsRow w.heap.size 22 1 (.slice (some ⟨w.heap.size, 0, none⟩) n n) n cs ∧ ∀ j, j < k → cs[j]? = some (.slice (cutA A f j) d d)) (fun i _ => n - (intOf i).toNat)
  case atStart => exact ⟨0, Nat.zero_le _, rfl, hbel, _, hown, fun j hj => by omega⟩
  case round =>
    clear hown hbel
    obtain ⟨k, hk, rfl, hbr, cs, ho, hcs⟩ := hrel
    by_cases hlt : k < n
    · obtain ⟨x, rfl⟩ := h.some_ (by omega)
      have rk := h.row k hlt
      have cx := (h.below hbr).cell x rfl k hlt
      have h1 := hr k hlt
      have h2 := hC k hlt
      have h3 := rk.max
      obtain ⟨y, ey⟩ := rk.some_ (by omega)
      have eA : cutA A f k = some (y.add f) := by unfold cutA; rw [ey]; rfl
      rw [ey] at cx
      have hB' : wr.cell? ⟨B, 0, none⟩ = some (.int .i64 d) := (hbr.cell (World.block_lt_of_cell? w _ hB)).trans hB
      obtain ⟨L, eL⟩ : ∃ L, (R k).length = L := ⟨_, rfl⟩
      rw [eL] at cx h1 h2 h3
      have kp := part_call y L (C k) f d B wr hd h1 h2 h3 hB'
      have hlen := own_length ho
      obtain ⟨u, hu⟩ : ∃ u, cs[k]? = some u := ⟨cs[k], by simp [hlen, hlt]⟩
      have cell : wr.cell? ⟨w.heap.size, k, none⟩ = some u := (ho.cellAt k (by omega)).trans hu
      have froz := ho.frozenAt k
      have Rr : Hid (Below w.heap.size w (wr.setCell ⟨w.heap.size, k, none⟩ (.slice (some (y.add f)) d d)) ∧ ∃ cs', (wr.setCell ⟨w.heap.size, k, none⟩ (.slice (some (y.add f)) d d)).ownsRow w.heap.size 22 1 (.slice (some ⟨w.heap.size, 0, none⟩) n n) n cs' ∧ ∀ j, j < k + 1 → cs'[j]? = some (.slice (cutA A f j) d d)) :=
        ⟨hbr.setCell (Nat.le_refl _) _, _, (ho.stored k _).1, set_step (F := fun j => Value.slice (cutA A f j) d d) hlen hlt (by rw [eA]) hcs⟩
      clear eL eA ey rk ho hcs hlen hbr hu h hr hC hB hi hz0 hz1 hz2
      go_wp2_with (go_at_call 30; refine kp.mono ?_; rintro e w' ⟨rfl, h⟩; obtain rfl := h.symm)
      go_roundw
      case rel => exact ⟨k + 1, by omega, by go_num, Rr.out⟩
      case measure => simp [intOf]; omega
    · have e : k = n := by omega
      subst e
      have fin := cut_grid (h.below hbr) hd hr (b := some ⟨w.heap.size, 0, none⟩) (fun _ => ⟨_, rfl⟩) (D := fun _ => d) (fun x hx r hr' => by
        obtain rfl := Option.some.inj hx
        exact ho.cells (g := w.heap.size) rfl r _ (hcs r hr'))
      clear hcs ho
      go_wp2
      go_ret
      exact ⟨⟨_, _, rfl, fin⟩, hbr⟩

end Go.Proofs.Ythbddbipmoflfaa
