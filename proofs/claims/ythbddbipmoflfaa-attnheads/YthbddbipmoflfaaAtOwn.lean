/- Rows that share nothing: the contract of the call. -/
import Derived.Test.YthbddbipmoflfaaRows
import Derived.Test.YthbddbipmoflfaaView
import Derived.Test.YthbddbipmoflfaaOwn
import Derived.Test.YthbddbipmoflfaaSteps
import Derived.Test.YthbddbipmoflfaaWhere
import Derived.Test.YthbddbipmoflfaaWorks
import Derived.Test.YthbddbipmoflfaaSoft
import Derived.Test.YthbddbipmoflfaaMean
import Derived.Test.YthbddbipmoflfaaGrids
import Derived.WalkKit
import Derived.ProofKit
import Derived.OpenShut
import Derived.Below
import Derived.WalkLawsBesides
import Derived.Deep.QuietTactic
import Derived.BigQuiet
namespace Go.Proofs.Ythbddbipmoflfaa
open Go.ChangeShapes Go.WideShapes Go.ChangeAt Go.RowKit
set_option linter.unusedVariables false
set_option linter.unusedSimpArgs false

theorem slice_oneCell (a : Option Addr) (n c : Nat) : ∀ u ∈ [Value.slice a n c], u.oneCell' = true := by
  intro u hu
  simp at hu
  subst hu
  rfl

set_option maxHeartbeats 1000000 in
theorem ownRows_call (a0 : Option Addr) (n0 c0 : Nat) (A0 : Nat → Option Addr) (C0 : Nat → Nat) (R0 : Nat → List Int) (w : World) (w0 : Grid w a0 n0 A0 C0 R0) (e0 : ∀ r, r < n0 → A0 r = none → C0 r = 0) (b0 : n0 * 24 ≤ 140737488351232) (g0 : ∀ r, r < n0 → (R0 r).length * 8 ≤ 140737488351232) :
    Calls Try.prog 10 #[.slice a0 n0 c0] w fun e w' => (∃ a c A C, e = .returned (.slice a n0 c) ∧ Grid w' a n0 A C R0 ∧ ∀ r, r < n0 → (R0 r).length ≤ C r) ∧ Below w.heap.size w w' := by
  obtain ⟨i0, hi, hz0, hz1, hz2⟩ := info_parts info2
  obtain ⟨j0, hj, hy0, hy1, hy2⟩ := info_parts info22
  have hm := w0.max
  go_enter Try.func10, Try.ntmps10
  go_wp2
  go_loopw [3, 4] (fun v i wr => ∃ k : Nat, k ≤ n0 ∧ i = .int .i64 k ∧ Below w.heap.size w wr ∧ ∃ A C, OwnGrid w.heap.size wr v k A C R0 ∧ ∀ r, r < k → (R0 r).length ≤ C r) (fun _ i _ => n0 - (intOf i).toNat)
  case atStart => exact ⟨0, Nat.zero_le _, rfl, Below.refl _ _, fun _ => none, fun _ => 0, OwnGrid.nil _ _ _ _ _, fun r h => by omega⟩
  case round =>
    obtain ⟨k, hk, rfl, hbr, A, C, og, hcap⟩ := hrel
    by_cases hlt : k < n0
    · have hw := w0.below hbr
      obtain ⟨x, rfl⟩ := w0.some_ (by omega)
      have cx := fun o => (w0.below (below_new hbr o)).cell x rfl k hlt
      have rk := hw.row k hlt
      have ek := e0 k hlt
      have gk := g0 k hlt
      have own := og.own
      have hsz := hbr.size
      obtain ⟨m, em⟩ : ∃ m, (R0 k).length = m := ⟨_, rfl⟩
      have Em : Hid ((R0 k).length = m) := em
      rw [em] at cx rk gk
      clear em hw
      go_wp2_with (first
        | (at_builtin; refine wpList_copy rfl (.tmp 12) (.tmp 16) 22 rfl wr.heap.size 2 i0 (.int .i64 0) 8 Try.underlying22 hi hz0 hz1 hz2 rfl _ 0 [] rfl (World.ownsRow_lit _ #[] 0 (Nat.le_refl _) (by decide) rfl) .i64 (A0 k) m (C0 k) (R0 k) rfl (rk.below (below_new (Below.refl _ _) _)) ek (by unfold maxLen; omega) (by omega) (below_new (Below.refl _ _) _).size ?_; intro v1 W1 ho1 hg1; have loc1 := ho1.lt; obtain ⟨p1, q1, rfl, r1, hb1, -, cap1⟩ := copied (Below.refl wr.heap.size wr) _ ho1 hg1 rk; clear ho1 hg1 rk; have own1 := own_below own hb1; have hb1' := below_then hbr hb1)
        | (at_builtin; refine wpList_append_where rfl (.tmp 11) (.tmp 18) 23 rfl w.heap.size 22 j0 (.slice none 0 0) 24 Try.underlying23 hj hy0 hy1 hy2 rfl _ k _ rfl (own1.alloc _) ⟨_, 0, none⟩ 1 (.slice p1 m q1) rfl (one_new _ _ _) (slice_oneCell _ _ _) (by unfold maxLen; omega) (by omega) (below_new hb1' _).size ?_; intro v2 W2 ho2 hg2 hs2))
      go_roundw
      case rel =>
        have bn := below_new (Below.refl W1.heap.size W1) (Obj.cells #[Value.slice p1 m q1] 22)
        refine ⟨k + 1, by omega, by go_num, below_append (below_new hb1' _) (own1.alloc _) hg2, _, _, ((og.below hb1).below bn).app (p := p1) (c := q1) (by rw [Em.out]) ?_ ?_ ho2 hg2 hs2, ?_⟩
        · rw [Em.out]; exact r1.below bn
        · intro _ y hy g hg e
          have l1 := (loc1 y.block (by rw [hy]; rfl)).1
          have l2 := (og.own.lt g hg).2
          omega
        · intro r hr
          by_cases e : r = k
          · subst e
            simp only [if_true, Em.out]
            exact cap1
          · simp only [if_neg e]
            exact hcap r (by omega)
      case measure => simp [intOf]; omega
    · have e : k = n0 := by omega
      subst e
      obtain ⟨p, q, rfl, gr⟩ := og.grid
      clear og hi hz0 hz1 hz2 hj hy0 hy1 hy2
      go_wp2
      go_ret
      exact ⟨⟨_, _, _, _, rfl, gr, hcap⟩, hbr⟩

end Go.Proofs.Ythbddbipmoflfaa
