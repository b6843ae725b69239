/- The prompt is looked at. -/
import Derived.Test.YtcpnakghndfdpaaRows
import Derived.Test.YtcpnakghndfdpaaView
import Derived.Test.YtcpnakghndfdpaaCfgs
import Derived.Test.YtcpnakghndfdpaaHeld
import Derived.Test.YtcpnakghndfdpaaAskA
import Derived.WalkKit
import Derived.ProofKit
import Derived.OpenShut
import Derived.Below
import Derived.Deep.QuietTactic
import Derived.BigQuiet
import Derived.WalkLawsBesides
import Derived.Deep.RegionWith
import Derived.Laws.FloatArith
import Derived.Laws.Externs
import Derived.Laws.BitsAllLaws
namespace Go.Proofs.Ytcpnakghndfdpaa

set_option maxRecDepth 20000

open Go.ChangeShapes Go.WideShapes Go.ChangeAt Go.RowKit

set_option linter.unusedVariables false

set_option linter.unusedSimpArgs false

theorem prompt_false {c : Cq} {zs : List Int} {k : Nat} (hk : k < zs.length) (h : ¬ (0 ≤ zs.getD k 0 ∧ zs.getD k 0 < c.v)) : promptZ c zs = false := by
  unfold promptZ
  rw [Bool.and_eq_false_iff]
  right
  rw [List.all_eq_false]
  refine ⟨zs[k], List.getElem_mem hk, ?_⟩
  have e : zs.getD k 0 = zs[k] := by simp [hk]
  rw [e] at h
  simp only [Bool.and_eq_true, decide_eq_true_eq]
  exact h

theorem prompt_true {c : Cq} {zs : List Int} (h : ∀ j, j < zs.length → 0 ≤ zs.getD j 0 ∧ zs.getD j 0 < c.v) : promptZ c zs = decide (0 < zs.length) := by
  unfold promptZ
  rw [show (zs.all fun z => decide (0 ≤ z) && decide (z < c.v)) = true by
    rw [List.all_eq_true]
    intro z hz
    obtain ⟨j, hj, rfl⟩ := List.getElem_of_mem hz
    have := h j hj
    rw [show zs.getD j 0 = zs[j] by simp [hj]] at this
    simpa using this, Bool.and_true]

theorem prompt_call (c : Cq) (a : Option Addr) (n m : Nat) (zs : List Int) (w : World) (hr : Reads .i64 w a n zs) :
    Calls Try.prog 31 #[c.w, .slice a n m] w fun e w' => e = .returned (.bool (promptZ c zs)) ∧ Below w.heap.size w w' := by
  have hm := hr.max
  have hl := hr.len
  have hb := below_new (Below.refl w.heap.size w) (.cells c.cs 31)
  have hr' := hr.below hb
  have q0 := Blk.new 31 w c.cs
  obtain ⟨c0, c1, c2, c3, c4, c5, c6, c7⟩ := q0.cfg
  obtain ⟨W, eW⟩ : ∃ W, w.alloc (.cells c.cs 31) = W := ⟨_, rfl⟩
  rw [eW] at hb hr' c0 c1 c2 c3 c4 c5 c6 c7
  clear q0
  go_enter Try.func31, Try.ntmps31
  go_wp2
  go_loopw [9] (fun i wr => ∃ k : Nat, k ≤ n ∧ i = .int .i64 k ∧ wr = W ∧ ∀ j, j < k → 0 ≤ zs.getD j 0 ∧ zs.getD j 0 < c.v) (fun i _ => n - (intOf i).toNat)
  case atStart => exact ⟨0, Nat.zero_le _, rfl, rfl, fun j hj => by omega⟩
  case round =>
    obtain ⟨k, hk, rfl, hw, hp⟩ := hrel
    subst hw
    by_cases hlt : k < n
    · obtain ⟨x, rfl⟩ := hr.some_ (by omega)
      have cx := hr'.cell x rfl k hlt
      have pf := prompt_false (c := c) (zs := zs) (k := k) (by omega)
      have pt : 0 ≤ zs.getD k 0 → zs.getD k 0 < c.v → ∀ j, j < k + 1 → 0 ≤ zs.getD j 0 ∧ zs.getD j 0 < c.v := fun z1 z2 j hj => by
        by_cases e : j = k
        · subst e; exact ⟨z1, z2⟩
        · exact hp j (by omega)
      obtain ⟨Z, eZ⟩ : ∃ Z, zs.getD k 0 = Z := ⟨_, rfl⟩
      rw [eZ] at cx pf pt
      clear eZ hp
      have HP := hidden_ (And.intro pf pt)
      clear pf pt
      by_cases z1 : Z < 0
      · go_wp2
        go_ret
        exact ⟨by rw [HP.out.1 (by omega)]; rfl, hb⟩
      · have z1' : 0 ≤ Z := by omega
        by_cases z2 : Z < c.v
        · go_wp2
          go_roundw
          case rel => exact ⟨k + 1, by omega, by go_num, trivial, HP.out.2 z1' z2⟩
          case measure => simp [intOf]; omega
        · have z2' : c.v ≤ Z := by omega
          go_wp2
          go_ret
          exact ⟨by rw [HP.out.1 (by omega)]; rfl, hb⟩
    · have e : k = n := by omega
      subst e
      have pe := prompt_true (c := c) (zs := zs) (by rw [hl]; exact hp)
      rw [hl] at pe
      clear hp
      go_wp2
      go_ret
      refine ⟨?_, hb⟩
      rw [pe]
      simp

end Go.Proofs.Ytcpnakghndfdpaa
