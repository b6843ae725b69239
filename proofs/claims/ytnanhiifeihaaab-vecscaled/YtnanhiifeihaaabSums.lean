/- What the sum of two rows gives back, the program's and the document's: contracts of the calls. -/
import Derived.Test.YtnanhiifeihaaabRows
import Derived.Test.YtnanhiifeihaaabSat
import Derived.Test.YtnanhiifeihaaabView
import Derived.Test.YtnanhiifeihaaabOwn
import Derived.WalkKit
import Derived.ProofKit
import Derived.OpenShut
import Derived.Below
import Derived.WalkLawsBesides
import Derived.Deep.RegionWith
namespace Go.Proofs.Ytnanhiifeihaaab
open Go.ChangeShapes Go.WideShapes Go.ChangeAt Go.RowKit
set_option linter.unusedVariables false

def plusZ (a b : List Int) (j : Nat) : Int := clampZ (clampZ (a.getD j 0) + clampZ (b.getD j 0))

set_option maxHeartbeats 2000000 in
theorem add4_same (a0 : Option Addr) (n c0 : Nat) (xs : List Int) (a1 : Option Addr) (c1 : Nat) (ys : List Int) (w : World) (h0 : Reads .i64 w a0 n xs) (h1 : Reads .i64 w a1 n ys) (hb : n * 8 ≤ 281474976710656) :
    Calls Try.prog 7 #[.slice a0 n c0, .slice a1 n c1] w fun e w' => (∃ a c, e = .returned (.tuple #[.slice a n c, .int .i64 0]) ∧ Reads .i64 w' a n ((List.range n).map (plusZ xs ys))) ∧ Below w.heap.size w w' := by
  obtain ⟨i0, hi, hz0, hz1, hz2⟩ := info_parts info2
  have hm := h0.max
  go_enter Try.func7, Try.ntmps7
  go_wp2_with (first | (at_make; refine wpList_make_full _ rfl (.tmp 14) (.tmp 14) 22 rfl w.heap.size 2 i0 (.int .i64 0) 1 Try.underlying22 hi hz0 hz1 .i64 .i64 _ _ n rfl rfl rfl rfl (by rw [hz2]; omega) (by unfold maxLen; omega) (Nat.le_refl _) ?_; intro w1 hown hgrow))
  have hbel : Below w.heap.size w w1 := (Below.refl _ _).grown hgrow (Nat.le_refl _) (fun k h => by cases h)
  go_wp2
  go_loopw [18] (fun i wr => ∃ k : Nat, k ≤ n ∧ i = .int .i64 k ∧ Below w.heap.size w wr ∧ ∃ cs, wr.ownsRow w.heap.size 2 1 (.slice (some ⟨w.heap.size, 0, none⟩) n n) n cs ∧ ∀ j, j < k → cs[j]? = some (.int .i64 (plusZ xs ys j))) (fun i _ => n - (intOf i).toNat)
  case atStart => exact ⟨0, Nat.zero_le _, rfl, hbel, _, hown, fun j hj => by omega⟩
  case round =>
    obtain ⟨k, hk, rfl, hbr, cs, ho, hcs⟩ := hrel
    by_cases hlt : k < n
    · have hr := h0.below hbr
      have hq := h1.below hbr
      obtain ⟨x, rfl⟩ := h0.some_ (by omega)
      obtain ⟨y, rfl⟩ := h1.some_ (by omega)
      have cx := hr.cell x rfl k hlt
      have cy := hq.cell y rfl k hlt
      have hlen := own_length ho
      have cell : wr.cell? ⟨w.heap.size, k, none⟩ = cs[k]? := ho.cellAt k (by omega)
      obtain ⟨u, hu⟩ : ∃ u, cs[k]? = some u := ⟨cs[k], by simp [hlen, hlt]⟩
      rw [hu] at cell
      have froz := ho.frozenAt k
      have st := fun v => ho.stored k v
      have step := fun v (h : v = Value.int .i64 (plusZ xs ys k)) => set_step (F := fun j => Value.int .i64 (plusZ xs ys j)) hlen hlt h hcs
      obtain ⟨X, eX⟩ : ∃ X, xs.getD k 0 = X := ⟨_, rfl⟩
      obtain ⟨Y, eY⟩ : ∃ Y, ys.getD k 0 = Y := ⟨_, rfl⟩
      have eP : plusZ xs ys k = clampZ (clampZ X + clampZ Y) := by unfold plusZ; rw [eX, eY]
      rw [eX] at cx
      rw [eY] at cy
      rw [eP] at step
      have R : Hid (Below w.heap.size w (wr.setCell ⟨w.heap.size, k, none⟩ (.int .i64 (clampZ (clampZ X + clampZ Y)))) ∧ ∃ cs', (wr.setCell ⟨w.heap.size, k, none⟩ (.int .i64 (clampZ (clampZ X + clampZ Y)))).ownsRow w.heap.size 2 1 (.slice (some ⟨w.heap.size, 0, none⟩) n n) n cs' ∧ ∀ j, j < k + 1 → cs'[j]? = some (.int .i64 (plusZ xs ys j))) :=
        ⟨hbr.setCell (Nat.le_refl _) _, _, (st _).1, step _ rfl⟩
      have bx := clampZ_bounds X
      have by_ := clampZ_bounds Y
      clear eX eY eP step st hcs ho hu hlen hr hbr hq hown hgrow hbel h0 h1 hi hz0 hz1 hz2
      go_wp2
      go_region_with (go_at_call 12; refine (clamp_call _ _).mono ?_; rintro e w' ⟨rfl, rfl⟩)
      all_goals
        go_wp2
        go_roundw
        case rel => exact ⟨k + 1, by omega, by go_num, R.out.1.drew, R.out.2⟩
        case measure => simp [intOf]; omega
    · have e : k = n := by omega
      subst e
      have fin := own_reads_at (zs := (List.range k).map (plusZ xs ys)) ho (by simp) (fun z hz => by obtain ⟨y, _, rfl⟩ := List.mem_map.1 hz; exact wf_clampZ _) (fun j hj => by rw [hcs j hj]; simp [hj])
      clear hcs ho
      go_wp2
      go_ret2
      exact ⟨⟨_, _, rfl, fin⟩, hbr⟩

end Go.Proofs.Ytnanhiifeihaaab
