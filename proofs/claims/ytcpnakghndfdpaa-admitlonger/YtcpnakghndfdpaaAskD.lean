/- The document tells whether what is asked is right. -/
import Derived.Test.YtcpnakghndfdpaaRows
import Derived.Test.YtcpnakghndfdpaaView
import Derived.Test.YtcpnakghndfdpaaCfgs
import Derived.Test.YtcpnakghndfdpaaHeld
import Derived.Test.YtcpnakghndfdpaaKnFloats
import Derived.Test.YtcpnakghndfdpaaKnExact
import Derived.Test.YtcpnakghndfdpaaKnCalls
import Derived.Test.YtcpnakghndfdpaaAskA
import Derived.Test.YtcpnakghndfdpaaAskB
import Derived.WalkKit
import Derived.ProofKit
import Derived.OpenShut
import Derived.Below
import Derived.Deep.QuietTactic
import Derived.BigQuiet
import Derived.WalkLawsBesides
import Derived.Deep.RegionWith
import Derived.Laws.FloatArith
import Derived.Laws.Externs
import Derived.Laws.BitsAllLaws
namespace Go.Proofs.Ytcpnakghndfdpaa

set_option maxRecDepth 20000

open Go.ChangeShapes Go.WideShapes Go.ChangeAt Go.RowKit

set_option linter.unusedVariables false

set_option linter.unusedSimpArgs false

theorem kind_else {c : Cq} {q : Aq} (h : q.k < 1 ∨ 4 < q.k) : kindZ c q = false := by
  unfold kindZ
  rw [if_neg (by omega), if_neg (by omega), if_neg (by omega), if_neg (by omega)]

theorem prompt_none {c : Cq} {zs : List Int} (h : zs.length = 0) : promptZ c zs = false := by
  unfold promptZ
  simp [h]

set_option maxHeartbeats 4000000 in
theorem refRight_call (c : Cq) (q : Aq) (zs : List Int) (w : World) (hr : Reads .i64 w q.a q.n zs) :
    Calls Try.prog 35 #[c.w, q.w] w fun e w' => e = .returned (.bool (promptZ c zs && kindZ c q)) ∧ Below w.heap.size w w' := by
  have hb := below_new (below_new (Below.refl w.heap.size w) (.cells c.cs 31)) (.cells q.cs 36)
  by_cases h1 : q.k < 1
  · go_enter Try.func35, Try.ntmps35
    go_wp2
    go_ret
    exact ⟨by rw [kind_else (.inl h1), Bool.and_false]; rfl, hb⟩
  by_cases h2 : 4 < q.k
  · go_enter Try.func35, Try.ntmps35
    go_wp2
    go_ret
    exact ⟨by rw [kind_else (.inr h2), Bool.and_false]; rfl, hb⟩
  have h1' : 1 ≤ q.k := by omega
  have h2' : q.k ≤ 4 := by omega
  by_cases h3 : q.n = 0
  · have h3' : ((q.n : Int) == 0) = true := by simp [h3]
    have e := prompt_none (c := c) (zs := zs) (by rw [hr.len, h3])
    clear h3
    go_enter Try.func35, Try.ntmps35
    go_wp2
    go_ret
    exact ⟨rfl, hb⟩
  have h3' : ((q.n : Int) == 0) = false := by simpa using h3
  have q0 : Blk 31 ((w.alloc (.cells c.cs 31)).alloc (.cells q.cs 36)) w.heap.size c.cs := (Blk.new 31 w _).kept (below_new (Below.refl _ _) _)
  have q1 : Blk 36 ((w.alloc (.cells c.cs 31)).alloc (.cells q.cs 36)) (w.heap.size + 1) q.cs := by simpa using Blk.new 36 (w.alloc (.cells c.cs 31)) q.cs
  have hm := hr.max
  have hl := hr.len
  have hr' := hr.below hb
  have hH := cmp_self q.H
  obtain ⟨nb, hnb⟩ : ∃ b, (!isN q.H) = b := ⟨_, rfl⟩
  rw [hnb] at hH
  obtain ⟨W, eW⟩ : ∃ W, (w.alloc (.cells c.cs 31)).alloc (.cells q.cs 36) = W := ⟨_, rfl⟩
  rw [eW] at hb hr' q0 q1
  obtain ⟨c0, c1, c2, c3, c4, c5, c6, c7⟩ := q0.cfg
  obtain ⟨a0, a1, a2, a3, a4, a5, a6, a7, a8⟩ := q1.ask
  go_enter Try.func35, Try.ntmps35
  go_wp2
  go_loopw [5] (fun i wr => ∃ k : Nat, k ≤ q.n ∧ i = .int .i64 k ∧ (∃ m, wr = W.drewN m) ∧ ∀ j, j < k → 0 ≤ zs.getD j 0 ∧ zs.getD j 0 < c.v) (fun i _ => q.n - (intOf i).toNat)
  case atStart => exact ⟨0, Nat.zero_le _, rfl, ⟨0, rfl⟩, fun j hj => by omega⟩
  case round =>
    obtain ⟨k, hk, rfl, ⟨m, hw⟩, hp⟩ := hrel
    replace hb := below_drew hb ⟨m, hw⟩
    replace q0 : Blk 31 wr w.heap.size c.cs := by rw [hw]; exact q0
    replace q1 : Blk 36 wr (w.heap.size + 1) q.cs := by rw [hw]; exact q1
    clear c0 c1 c2 c3 c4 c5 c6 c7 a0 a1 a2 a3 a4 a5 a6 a7 a8
    obtain ⟨c0, c1, c2, c3, c4, c5, c6, c7⟩ := q0.cfg
    obtain ⟨a0, a1, a2, a3, a4, a5, a6, a7, a8⟩ := q1.ask
    by_cases hlt : k < q.n
    · obtain ⟨x, hx⟩ := hr.some_ (by omega)
      rw [hx] at a1
      have cx : wr.cell? (x.add k) = some (.int .i64 (zs.getD k 0)) := by rw [hw]; exact hr'.cell x hx k hlt
      have pf := prompt_false (c := c) (zs := zs) (k := k) (by omega)
      have pt : 0 ≤ zs.getD k 0 → zs.getD k 0 < c.v → ∀ j, j < k + 1 → 0 ≤ zs.getD j 0 ∧ zs.getD j 0 < c.v := fun z1 z2 j hj => by
        by_cases e : j = k
        · subst e; exact ⟨z1, z2⟩
        · exact hp j (by omega)
      have Hw : Hid (wr = W.drewN m) := hw
      clear hw hx
      obtain ⟨Z, eZ⟩ : ∃ Z, zs.getD k 0 = Z := ⟨_, rfl⟩
      rw [eZ] at cx pf pt
      clear eZ hp
      have HP := hidden_ (And.intro pf pt)
      clear pf pt h1 h2 h3 hH hnb
      by_cases z1 : Z < 0
      · go_wp2
        go_quiet (fail)
        go_wp2
        go_ret
        exact ⟨by rw [HP.out.1 (by omega), Bool.false_and]; rfl, below_drew hb ⟨_, rfl⟩⟩
      · have z1' : 0 ≤ Z := by omega
        by_cases z2 : Z < c.v
        · go_wp2
          go_quiet (fail)
          go_wp2
          go_roundw
          case rel => exact ⟨k + 1, by omega, by go_num, ⟨_, by rw [Hw.out, World.drewN_drewN]⟩, HP.out.2 z1' z2⟩
          case measure => simp [intOf]; omega
        · have z2' : c.v ≤ Z := by omega
          go_wp2
          go_quiet (fail)
          go_wp2
          go_ret
          exact ⟨by rw [HP.out.1 (by omega), Bool.false_and]; rfl, below_drew hb ⟨_, rfl⟩⟩
    · have e : k = q.n := by omega
      subst e
      have pe := prompt_true (c := c) (zs := zs) (by rw [hl]; exact hp)
      rw [hl, show decide (0 < q.n) = true by simp; omega] at pe
      have key : (promptZ c zs && kindZ c q) = kindZ c q := by rw [pe, Bool.true_and]
      clear hp pe hw hr hr' hk hlt eW
      by_cases k4 : q.k = 4
      · have K := hidden_ (key.trans (show kindZ c q = true by simp [kindZ, k4]))
        clear key
        go_wp2
        go_ret
        exact ⟨by rw [K.out]; rfl, hb⟩
      by_cases l1 : 1 ≤ q.L <;> by_cases s1 : q.S < c.v
      rotate_left
      iterate 3
        · have K := hidden_ (key.trans (show kindZ c q = false by simp [kindZ, k4, endZ, l1, s1]))
          clear key
          go_wp2
          go_ret
          exact ⟨by rw [K.out]; rfl, hb⟩
      have ee : endZ c q = true := by simp [endZ, l1, s1]
      by_cases k2 : q.k = 2
      · have K := hidden_ (key.trans (show kindZ c q = (decide (1 ≤ q.T) && (decide (q.T ≤ c.v) && nb)) by simp [kindZ, k2, ee, choiceZ, hnb]))
        clear key ee hnb
        by_cases t1 : 1 ≤ q.T <;> by_cases t2 : q.T ≤ c.v <;> cases nb <;>
        · go_wp2
          go_ret
          exact ⟨by rw [K.out]; simp [t1, t2], hb⟩
      by_cases k3 : q.k = 3
      · have K := hidden_ (key.trans (show kindZ c q = triesZ q by simp [kindZ, k3, ee]))
        unfold triesZ at K
        clear key ee hH hnb
        by_cases t1 : 1 ≤ q.B <;> by_cases t2 : q.B ≤ 4 <;> by_cases t3 : 0 ≤ q.E <;> by_cases t4 : q.E ≤ 64 <;>
        first | omega | (
          go_wp2
          go_ret
          exact ⟨by rw [K.out]; simp [t1, t2, t3, t4], hb⟩)
      · have k1 : q.k = 1 := by omega
        have K := hidden_ (key.trans (show kindZ c q = true by simp [kindZ, k1, ee]))
        clear key ee hH hnb
        go_wp2
        go_ret
        exact ⟨by rw [K.out]; rfl, hb⟩

end Go.Proofs.Ytcpnakghndfdpaa
