/- What the product of a row with a number gives back, the program's and the document's: contracts of the calls. -/
import Derived.Test.YtnanhiifeihaaaaRows
import Derived.Test.YtnanhiifeihaaaaSat
import Derived.Test.YtnanhiifeihaaaaSatRef
import Derived.Test.YtnanhiifeihaaaaView
import Derived.Test.YtnanhiifeihaaaaOwn
import Derived.WalkKit
import Derived.ProofKit
import Derived.OpenShut
import Derived.Below
import Derived.WalkLawsBesides
namespace Go.Proofs.Ytnanhiifeihaaaa
open Go.ChangeShapes Go.WideShapes Go.ChangeAt Go.RowKit
set_option linter.unusedVariables false

theorem wf_mulZ (a b : Int) : (Lit.int .i64 (mulZ a b)).wf = true := wf_clampZ _

theorem scale_call (a0 : Option Addr) (n c0 : Nat) (xs : List Int) (s : Int) (w : World) (h0 : Reads .i64 w a0 n xs) (hs : (Lit.int .i64 s).wf = true) (hb : n * 8 ≤ 281474976710656) :
    Calls Try.prog 18 #[.slice a0 n c0, .int .i64 s] w fun e w' => (∃ a c, e = .returned (.slice a n c) ∧ Reads .i64 w' a n (xs.map fun x => mulZ x s)) ∧ Below w.heap.size w w' := by
  obtain ⟨i0, hi, hz0, hz1, hz2⟩ := info_parts info2
  have hm := h0.max
  go_enter Try.func18, Try.ntmps18
  go_wp2_with (first | (at_make; refine wpList_make_full _ rfl (.tmp 8) (.tmp 8) 23 rfl w.heap.size 2 i0 (.int .i64 0) 1 Try.underlying23 hi hz0 hz1 .i64 .i64 _ _ n rfl rfl rfl rfl (by rw [hz2]; omega) (by unfold maxLen; omega) (Nat.le_refl _) ?_; intro w1 hown hgrow))
  have hbel : Below w.heap.size w w1 := (Below.refl _ _).grown hgrow (Nat.le_refl _) (fun k h => by cases h)
  go_wp2
  go_loopw [12] (fun i wr => ∃ k : Nat, k ≤ n ∧ i = .int .i64 k ∧ Below w.heap.size w wr ∧ ∃ cs, wr.ownsRow w.heap.size 2 1 (.slice (some ⟨w.heap.size, 0, none⟩) n n) n cs ∧ ∀ j, j < k → cs[j]? = some (.int .i64 (mulZ (xs.getD j 0) s))) (fun i _ => n - (intOf i).toNat)
  case atStart => exact ⟨0, Nat.zero_le _, rfl, hbel, _, hown, fun j hj => by omega⟩
  case round =>
    obtain ⟨k, hk, rfl, hbr, cs, ho, hcs⟩ := hrel
    by_cases hlt : k < n
    · have hr := h0.below (hbr)
      obtain ⟨x, rfl⟩ := h0.some_ (by omega)
      have cx := hr.cell x rfl k hlt
      have wz := h0.wf k
      have hlen := own_length ho
      have cell : wr.cell? ⟨w.heap.size, k, none⟩ = cs[k]? := ho.cellAt k (by omega)
      obtain ⟨u, hu⟩ : ∃ u, cs[k]? = some u := ⟨cs[k], by simp [hlen, hlt]⟩
      rw [hu] at cell
      have froz := ho.frozenAt k
      have st := fun v => ho.stored k v
      have step := fun v (h : v = Value.int .i64 (mulZ (xs.getD k 0) s)) => set_step (F := fun j => Value.int .i64 (mulZ (xs.getD j 0) s)) hlen hlt h hcs
      obtain ⟨X, eX⟩ : ∃ X, xs.getD k 0 = X := ⟨_, rfl⟩
      rw [eX] at cx wz step
      have R : Hid (Below w.heap.size w (wr.setCell ⟨w.heap.size, k, none⟩ (.int .i64 (mulZ X s))) ∧ ∃ cs', (wr.setCell ⟨w.heap.size, k, none⟩ (.int .i64 (mulZ X s))).ownsRow w.heap.size 2 1 (.slice (some ⟨w.heap.size, 0, none⟩) n n) n cs' ∧ ∀ j, j < k + 1 → cs'[j]? = some (.int .i64 (mulZ (xs.getD j 0) s))) :=
        ⟨hbr.setCell (Nat.le_refl _) _, _, (st _).1, step _ rfl⟩
      clear eX step st hcs ho hu hlen hr hbr
      go_wp2_with (go_at_call 28; refine (mul_call _ _ wz hs _).mono ?_; rintro e w' ⟨rfl, rfl⟩)
      go_roundw
      case rel => exact ⟨k + 1, by omega, by go_num, R.out⟩
      case measure => simp [intOf]; omega
    · have e : k = n := by omega
      subst e
      have fin := own_reads_at (zs := xs.map fun x => mulZ x s) ho (by rw [List.length_map, h0.len]) (fun z hz => by obtain ⟨y, _, rfl⟩ := List.mem_map.1 hz; exact wf_mulZ _ _) (fun j hj => by rw [hcs j hj, map_getD _ _ _ (by rw [h0.len]; exact hj)])
      clear hcs ho
      go_wp2
      go_ret
      exact ⟨⟨_, _, rfl, fin⟩, hbr⟩

theorem refScale_call (a0 : Option Addr) (n c0 : Nat) (xs : List Int) (s : Int) (w : World) (h0 : Reads .i64 w a0 n xs) (hs : (Lit.int .i64 s).wf = true) (hb : n * 8 ≤ 140737488355328) :
    Calls Try.prog 19 #[.slice a0 n c0, .int .i64 s] w fun e w' => (∃ a c, e = .returned (.slice a n c) ∧ Reads .i64 w' a n (xs.map fun x => mulZ x s)) ∧ Below w.heap.size w w' := by
  obtain ⟨i0, hi, hz0, hz1, hz2⟩ := info_parts info2
  have hm := h0.max
  obtain ⟨F, eF⟩ : ∃ F : Nat → Int, F = fun j => mulZ (xs.getD j 0) s := ⟨_, rfl⟩
  go_enter Try.func19, Try.ntmps19
  go_wp2
  go_loopw [5, 6] (fun v i wr => ∃ k : Nat, k ≤ n ∧ i = .int .i64 k ∧ Below w.heap.size w wr ∧ wr.ownsRow w.heap.size 2 1 v k (gath F .i64 k)) (fun _ i _ => n - (intOf i).toNat)
  case atStart => exact ⟨0, Nat.zero_le _, rfl, Below.refl _ _, World.ownsRow_nil _ _ _ _⟩
  case round =>
    obtain ⟨k, hk, rfl, hbr, ho⟩ := hrel
    by_cases hlt : k < n
    · have hr := h0.below hbr
      obtain ⟨x, rfl⟩ := h0.some_ (by omega)
      have cx := hr.cell x rfl k hlt
      have wz := h0.wf k
      have hsz := hbr.size
      obtain ⟨X, eX⟩ : ∃ X, xs.getD k 0 = X := ⟨_, rfl⟩
      have eZ : mulZ X s = F k := by rw [eF, ← eX]
      have Ez : Hid (mulZ X s = F k) := eZ
      rw [eX] at cx wz
      clear eF eX eZ hr
      go_wp2_with (first
        | (go_at_call 29; refine (refMul_call _ _ wz hs _).mono ?_; rintro e w' ⟨rfl, rfl⟩)
        | (at_builtin; refine wpList_append_own _ rfl (.tmp 13) (.tmp 20) 23 rfl w.heap.size 2 i0 (.int .i64 0) 1 8 Try.underlying23 hi hz0 hz1 hz2 rfl (by decide) _ _ _ rfl (ho.alloc _) ⟨_, 0, none⟩ 1 1 [.int .i64 (mulZ X s)] rfl rfl (one_new _ _ _) (one_oneCell _ _) (by unfold maxLen; omega) (by omega) (by simp; omega) ?_; intro v' w1 ho' hg _))
      go_roundw
      case rel => exact ⟨k + 1, by omega, by go_num, append_step hsz Ez.out hbr ho ho' hg⟩
      case measure => simp [intOf]; omega
    · have e : k = n := by omega
      subst e
      have fin := own_reads (zs := xs.map fun x => mulZ x s) ho (by rw [List.length_map, h0.len]) (fun z hz => by obtain ⟨y, _, rfl⟩ := List.mem_map.1 hz; exact wf_mulZ _ _) (fun j hj => by rw [gath_at _ _ _ _ hj, eF, map_getD _ _ _ (by rw [h0.len]; exact hj)])
      obtain ⟨a, c, rfl, hr⟩ := fin
      clear eF ho
      go_wp2
      go_ret
      exact ⟨⟨_, _, rfl, hr⟩, hbr⟩

end Go.Proofs.Ytnanhiifeihaaaa
